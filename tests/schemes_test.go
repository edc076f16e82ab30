package tests

import (
	"fmt"
	"math"
	"regexp"
	"slices"
	"strconv"

	"loop.example/g01117/impl"
)

// The functions of this file say of schemes, from the words of the document, what the program is to return.

func schemeOf(holders int64, owners []int64, m impl.Matrix) impl.Scheme {
	return impl.Scheme{Holders: holders, Owners: owners, Matrix: m}
}

func isScheme(s impl.Scheme) bool {
	return s.Holders >= 1 && s.Holders <= 7 && isMatrix(s.Matrix) && s.Matrix.Cols > 0 && len(s.Owners) == len(s.Matrix.Rows) && areRemainders(s.Holders, s.Owners)
}

// ownerText returns the letter of a holder, and another text for whoever is none.
func ownerText(owner int64) string {
	if owner < 0 || owner > 25 {
		return "?"
	}
	return string(rune('A' + owner))
}

func schemeText(s impl.Scheme) string {
	text := fmt.Sprintf("scheme %d %d %d\n", s.Holders, s.Matrix.Prime, s.Matrix.Cols)
	for i, row := range s.Matrix.Rows {
		text += "row " + ownerText(s.Owners[i])
		for _, n := range row {
			text += " " + strconv.Itoa(int(n))
		}
		text += "\n"
	}
	return text
}

var schemeForm = regexp.MustCompile(`^scheme (0|[1-9][0-9]*) ((0|[1-9][0-9]*) (0|[1-9][0-9]*)\n(row [A-Z]( (0|[1-9][0-9]*))*\n)*)$`)
var ownerForm = regexp.MustCompile(`row ([A-Z])`)

// schemeWithText returns the scheme of a text, if it is one; without holders, it is that of a matrix.
func schemeWithText(text string) (impl.Scheme, bool) {
	parts := schemeForm.FindStringSubmatch(text)
	if parts == nil {
		return impl.Scheme{}, false
	}
	holders, err := strconv.Atoi(parts[1])
	m, ok := matrixWithText("matrix " + ownerForm.ReplaceAllString(parts[2], "row"))
	if err != nil || !ok {
		return impl.Scheme{}, false
	}
	s := schemeOf(int64(holders), nil, m)
	for _, owner := range ownerForm.FindAllStringSubmatch(text, -1) {
		s.Owners = append(s.Owners, int64(owner[1][0]-'A'))
	}
	return s, isScheme(s)
}

// scheme returns the scheme with a text that is known to be one.
func scheme(text string) impl.Scheme {
	s, ok := schemeWithText(text)
	if !ok {
		panic("no scheme: " + text)
	}
	return s
}

// rowsHeldBy returns the indices of the rows of a group.
func rowsHeldBy(s impl.Scheme, mask int) []int64 {
	rows := []int64{}
	for i, owner := range s.Owners {
		if slices.Contains(members(mask), owner) {
			rows = append(rows, int64(i))
		}
	}
	return rows
}

// matrixHeldBy returns the matrix of the rows of a group.
func matrixHeldBy(s impl.Scheme, mask int) impl.Matrix {
	m := matrixOf(s.Matrix.Prime, s.Matrix.Cols)
	for _, i := range rowsHeldBy(s, mask) {
		m.Rows = append(m.Rows, s.Matrix.Rows[i])
	}
	return m
}

func ruleOfScheme(s impl.Scheme) rule {
	return newRule(int(s.Holders), func(mask int) bool {
		span, _ := spanOf(s.Matrix.Prime, matrixHeldBy(s, mask).Rows)
		return span.has(unit(s.Matrix.Cols, 0))
	})
}

// sharesBy returns the shares of the rows of a matrix for a secret and blinds.
func sharesBy(m impl.Matrix, drawn []int64) []int64 {
	shares := []int64{}
	for _, row := range m.Rows {
		shares = append(shares, dot(m.Prime, row, drawn))
	}
	return shares
}

// countLists returns the number of lists of a secret and blinds.
func countLists(s impl.Scheme) float64 {
	return math.Pow(float64(s.Matrix.Prime), float64(s.Matrix.Cols))
}

// A casebook counts for shares, as shown, the lists of blinds of each secret that give them.
type casebook map[string][]int64

func casesBy(m impl.Matrix) casebook {
	book := casebook{}
	for _, drawn := range allLists(m.Prime, int(m.Cols)) {
		shares := show(sharesBy(m, drawn))
		if book[shares] == nil {
			book[shares] = make([]int64, m.Prime)
		}
		book[shares][drawn[0]]++
	}
	return book
}

// of returns the cases of shares, which may have none.
func (b casebook) of(p int64, held []int64) []int64 {
	if cases := b[show(held)]; cases != nil {
		return cases
	}
	return make([]int64, p)
}

// secrets returns the secrets from which shares can come.
func secrets(cases []int64) []int64 {
	var list []int64
	for secret, count := range cases {
		if count > 0 {
			list = append(list, int64(secret))
		}
	}
	return list
}

// schemesWith returns the schemes with a matrix for all ways to own its rows.
func schemesWith(holders int64, m impl.Matrix) []impl.Scheme {
	var schemes []impl.Scheme
	for _, owners := range allLists(holders, len(m.Rows)) {
		schemes = append(schemes, schemeOf(holders, owners, m))
	}
	return schemes
}

// smallSchemes are all schemes of some sizes: some without rows, and some whose only column is that of the secret.
func smallSchemes() []impl.Scheme {
	var schemes []impl.Scheme
	for _, size := range [][4]int64{{1, 2, 0, 1}, {3, 2, 0, 2}, {7, 31, 0, 1}, {1, 2, 1, 1}, {2, 2, 2, 1}, {3, 2, 3, 1}, {2, 3, 2, 1}, {1, 3, 1, 2}, {2, 2, 2, 2}, {2, 2, 3, 2}, {2, 3, 2, 2}, {2, 2, 2, 3}, {3, 2, 2, 2}} {
		for _, m := range allMatrices(size[1], int(size[2]), int(size[3])) {
			schemes = append(schemes, schemesWith(size[0], m)...)
		}
	}
	return schemes
}

// someScheme returns a scheme of a size, in which the first row is often that of the secret's column, so that many groups open it.
func someScheme(draw func(int64) int64, p, holders, rows, cols int64) impl.Scheme {
	s := schemeOf(holders, nil, someMatrix(draw, p, rows, cols))
	for i := range rows {
		s.Owners = append(s.Owners, draw(holders))
		if draw(4) == 0 {
			// Then this row, with some others, makes the list of the secret.
			s.Matrix.Rows[i] = slices.Clone(s.Matrix.Rows[draw(rows)])
			s.Matrix.Rows[i][0] = (s.Matrix.Rows[i][0] + 1 + draw(p-1)) % p
		}
	}
	return s
}

// someSchemes returns a few schemes of all primes, numbers of holders, rows and columns.
func someSchemes() []impl.Scheme {
	var schemes []impl.Scheme
	for _, p := range allPrimes() {
		draw := drawer(uint64(p) + 300)
		for range 20 {
			schemes = append(schemes, someScheme(draw, p, 1+draw(7), draw(21), 1+draw(12)), someScheme(draw, p, 1+draw(5), 1+draw(12), 1+draw(5)))
		}
		schemes = append(schemes, someScheme(draw, p, 7, 20, 12), someScheme(draw, p, 1, 20, 1), someScheme(draw, p, 4, 12, 12), someScheme(draw, p, 4, 13, 12),
			schemeOf(7, nil, matrixOf(p, 12)), schemeOf(1, nil, matrixOf(p, 1)))
	}
	return schemes
}

// everyScheme runs a check for all small schemes, and for some others of each size and prime.
func everyScheme(check func(s impl.Scheme)) {
	for _, s := range slices.Concat(smallSchemes(), someSchemes()) {
		check(s)
	}
}

// brokenSchemes are not valid, each for a reason of its own.
func brokenSchemes() []impl.Scheme {
	const least, most = math.MinInt64, math.MaxInt64
	one := matrixOf(5, 1, []int64{1})
	schemes := []impl.Scheme{
		{}, schemeOf(0, nil, matrixOf(5, 1)), schemeOf(8, nil, matrixOf(5, 1)), schemeOf(-1, nil, matrixOf(5, 1)), schemeOf(least, nil, matrixOf(5, 1)), schemeOf(most, nil, matrixOf(5, 1)),
		schemeOf(0, []int64{0}, one), schemeOf(8, []int64{0}, one), schemeOf(3, nil, one), schemeOf(3, []int64{0}, matrixOf(5, 1)), schemeOf(3, []int64{0, 1}, one), schemeOf(3, []int64{0}, matrixOf(5, 1, []int64{1}, []int64{1})),
		schemeOf(3, []int64{3}, one), schemeOf(3, []int64{-1}, one), schemeOf(7, []int64{7}, one), schemeOf(3, []int64{least}, one), schemeOf(3, []int64{most}, one), schemeOf(3, []int64{0, 3}, matrixOf(5, 1, []int64{1}, []int64{1})),
		schemeOf(3, nil, matrixOf(5, 0)), schemeOf(3, []int64{0, 1}, matrixOf(5, 0, nil, nil)), schemeOf(7, repeat(int64(6), 21), matrixOf(5, 1, repeat([]int64{1}, 21)...)),
	}
	for _, m := range brokenMatrices() {
		schemes = append(schemes, schemeOf(3, make([]int64, len(m.Rows)), m))
	}
	return schemes
}

// brokenGroups are no groups of so many holders.
func brokenGroups(holders int64) [][]int64 {
	return [][]int64{{holders}, {-1}, {0, 0}, {0, holders}, {-1, 0}, {math.MinInt64}, {math.MaxInt64}, {0, 64}, countTo(holders + 1), slices.Concat(countTo(holders), []int64{0}), repeat(int64(0), 20)}
}

// schemeOfTree returns the scheme of a gate, whatever its size.
// The columns of each node are numbered before any row is written: nodes are met in the order of the text of the gate.
func schemeOfTree(p, holders int64, g impl.Gate) impl.Scheme {
	s := schemeOf(holders, nil, matrixOf(p, 1))
	var paths [][][3]int64 // for each leaf: the first new column, Least, and the point of the kid, for all nodes that it is in
	var visit func(g impl.Gate, path [][3]int64)
	visit = func(g impl.Gate, path [][3]int64) {
		if len(g.Kids) == 0 {
			s.Owners, paths = append(s.Owners, g.Holder), append(paths, path)
			return
		}
		first := s.Matrix.Cols
		s.Matrix.Cols += g.Least - 1
		for i, kid := range g.Kids {
			visit(kid, append(slices.Clone(path), [3]int64{first, g.Least, int64(i + 1)}))
		}
	}
	visit(g, nil)
	for _, path := range paths {
		row := unit(s.Matrix.Cols, 0)
		for _, part := range path {
			power := int64(1)
			for k := range part[1] - 1 {
				power = power * part[2] % p
				row[part[0]+k] = power
			}
		}
		s.Matrix.Rows = append(s.Matrix.Rows, row)
	}
	return s
}

// codeOfTree returns the code with which a scheme for a valid gate is refused.
func codeOfTree(p int64, g impl.Gate) int64 {
	if widest(g) >= int(p) {
		return impl.ErrState
	}
	if s := schemeOfTree(p, 7, g); len(s.Owners) > 20 || s.Matrix.Cols > 12 {
		return impl.ErrLimit
	}
	return impl.OK
}

// widest returns the greatest number of kids of a node.
func widest(g impl.Gate) int {
	most := len(g.Kids)
	for _, kid := range g.Kids {
		most = max(most, widest(kid))
	}
	return most
}
