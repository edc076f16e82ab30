package tests

import (
	"fmt"
	"regexp"
	"slices"
	"strconv"
	"strings"

	"loop.example/g01117/impl"
)

// The functions of this file say of elements and matrices, from the words of the document, what the program is to return.

func allPrimes() []int64 { return []int64{2, 3, 5, 7, 11, 13, 17, 19, 23, 29, 31} }

func matrixOf(p, cols int64, rows ...[]int64) impl.Matrix {
	return impl.Matrix{Prime: p, Cols: cols, Rows: rows}
}

// identity has 1 in the diagonal and 0 elsewhere.
func identity(p, size int64) impl.Matrix {
	m := matrixOf(p, size)
	for i := range size {
		m.Rows = append(m.Rows, unit(size, i))
	}
	return m
}

func unit(size, at int64) []int64 {
	list := make([]int64, size)
	list[at] = 1
	return list
}

func isMatrix(m impl.Matrix) bool {
	if !slices.Contains(allPrimes(), m.Prime) || m.Cols < 0 || m.Cols > 12 || len(m.Rows) > 20 {
		return false
	}
	for _, row := range m.Rows {
		if int64(len(row)) != m.Cols || !areRemainders(m.Prime, row) {
			return false
		}
	}
	return true
}

func areRemainders(p int64, list []int64) bool {
	return !slices.ContainsFunc(list, func(n int64) bool { return n < 0 || n >= p })
}

func matrixText(m impl.Matrix) string {
	text := fmt.Sprintf("matrix %d %d\n", m.Prime, m.Cols)
	for _, row := range m.Rows {
		text += "row"
		for _, n := range row {
			text += " " + strconv.Itoa(int(n))
		}
		text += "\n"
	}
	return text
}

var matrixForm = regexp.MustCompile(`^matrix (0|[1-9][0-9]*) (0|[1-9][0-9]*)\n(row( (0|[1-9][0-9]*))*\n)*$`)

// matrixWithText returns the matrix of a text, if it is one.
func matrixWithText(text string) (impl.Matrix, bool) {
	if !matrixForm.MatchString(text) {
		return impl.Matrix{}, false
	}
	var lists [][]int64
	for _, line := range strings.Split(strings.TrimSuffix(text, "\n"), "\n") {
		list := []int64{}
		for _, word := range strings.Fields(line)[1:] {
			n, err := strconv.Atoi(word)
			if err != nil {
				return impl.Matrix{}, false
			}
			list = append(list, int64(n))
		}
		lists = append(lists, list)
	}
	m := impl.Matrix{Prime: lists[0][0], Cols: lists[0][1], Rows: lists[1:]}
	return m, isMatrix(m)
}

// inverseByTrial returns the element whose product with a is 1.
func inverseByTrial(p, a int64) int64 {
	for b := range p {
		if a*b%p == 1 {
			return b
		}
	}
	panic("there is no inverse")
}

func dot(p int64, a, b []int64) int64 {
	sum := int64(0)
	for i := range a {
		sum += a[i] * b[i]
	}
	return sum % p
}

// columns returns the lists of the elements of each column.
func columns(m impl.Matrix) [][]int64 {
	lists := make([][]int64, m.Cols)
	for col := range lists {
		for _, row := range m.Rows {
			lists[col] = append(lists[col], row[col])
		}
	}
	return lists
}

func productByDefinition(m, n impl.Matrix) impl.Matrix {
	result := matrixOf(m.Prime, n.Cols)
	for _, row := range m.Rows {
		list := []int64{}
		for _, column := range columns(n) {
			list = append(list, dot(m.Prime, row, column))
		}
		result.Rows = append(result.Rows, list)
	}
	return result
}

// determinantByRows returns the determinant of the rows from the given one on, in the columns that are not used.
func determinantByRows(m impl.Matrix, row int, used []bool, known map[string]int64) int64 {
	if row == len(m.Rows) {
		return 1
	}
	key := fmt.Sprint(used)
	if value, ok := known[key]; ok {
		return value
	}
	sum, sign := int64(0), int64(1)
	for col, element := range m.Rows[row] {
		if used[col] {
			continue
		}
		used[col] = true
		sum += sign * element * determinantByRows(m, row+1, used, known)
		used[col] = false
		sign = -sign
	}
	known[key] = (sum%m.Prime + m.Prime) % m.Prime
	return known[key]
}

func determinantByDefinition(m impl.Matrix) int64 {
	return determinantByRows(m, 0, make([]bool, m.Cols), map[string]int64{})
}

// A listSpan holds lists, one for each column in which one that is taken begins; together they span all that were taken.
type listSpan struct {
	p     int64
	first map[int][]int64
}

func newSpan(p int64) listSpan { return listSpan{p, map[int][]int64{}} }

// rest returns what is left of a list when multiples of the lists of the span are taken from it, and its first column, or -1 if nothing is left.
func (s listSpan) rest(list []int64) ([]int64, int) {
	list = slices.Clone(list)
	for col := range list {
		if list[col] == 0 {
			continue
		}
		other, ok := s.first[col]
		if !ok {
			return list, col
		}
		for i, factor := 0, list[col]*inverseByTrial(s.p, other[col]); i < len(list); i++ {
			list[i] = ((list[i]-factor*other[i])%s.p + s.p) % s.p
		}
	}
	return list, -1
}

// take adds a list, and returns false if it was spanned already.
func (s listSpan) take(list []int64) bool {
	list, col := s.rest(list)
	if col < 0 {
		return false
	}
	s.first[col] = list
	return true
}

func (s listSpan) has(list []int64) bool {
	_, col := s.rest(list)
	return col < 0
}

// spanOf returns the span of some lists, and for each of them whether it is no sum of multiples of those before it.
func spanOf(p int64, lists [][]int64) (listSpan, []bool) {
	s := newSpan(p)
	var isNew []bool
	for _, list := range lists {
		isNew = append(isNew, s.take(list))
	}
	return s, isNew
}

// isCombination reports whether a list is the Combination of rows for a target.
func isCombination(m impl.Matrix, target, list []int64) bool {
	_, isNew := spanOf(m.Prime, m.Rows)
	for i, n := range list {
		if n != 0 && !isNew[i] {
			return false
		}
	}
	if len(list) != len(m.Rows) || !areRemainders(m.Prime, list) {
		return false
	}
	for col, column := range columns(m) {
		if dot(m.Prime, list, column) != target[col] {
			return false
		}
	}
	return true
}

// isSolution reports whether a list is what SolveFor is to return for values.
func isSolution(m impl.Matrix, values, list []int64) bool {
	if int64(len(list)) != m.Cols || !areRemainders(m.Prime, list) {
		return false
	}
	s, _ := spanOf(m.Prime, m.Rows)
	for col, n := range list {
		if n != 0 && s.first[col] == nil {
			return false
		}
	}
	for i, row := range m.Rows {
		if dot(m.Prime, row, list) != values[i] {
			return false
		}
	}
	return true
}

// isKernel reports whether a matrix is what KernelOf is to return.
func isKernel(m, k impl.Matrix) bool {
	s, _ := spanOf(m.Prime, m.Rows)
	var free []int64
	for col := range m.Cols {
		if s.first[int(col)] == nil {
			free = append(free, col)
		}
	}
	if !isMatrix(k) || k.Prime != m.Prime || k.Cols != m.Cols || len(k.Rows) != len(free) {
		return false
	}
	for i, list := range k.Rows {
		for other, col := range free {
			if (list[col] == 1) != (i == other) || (list[col] == 0) != (i != other) {
				return false
			}
		}
		for _, row := range m.Rows {
			if dot(m.Prime, row, list) != 0 {
				return false
			}
		}
	}
	return true
}

// allLists returns all lists of so many elements.
func allLists(p int64, length int) [][]int64 {
	lists := [][]int64{{}}
	for range length {
		var longer [][]int64
		for _, list := range lists {
			for n := range p {
				longer = append(longer, append(slices.Clone(list), n))
			}
		}
		lists = longer
	}
	return lists
}

// allMatrices returns all matrices of a size.
func allMatrices(p int64, rows, cols int) []impl.Matrix {
	var matrices []impl.Matrix
	for _, list := range allLists(p, rows*cols) {
		m := matrixOf(p, int64(cols))
		for i := range rows {
			m.Rows = append(m.Rows, list[i*cols:(i+1)*cols])
		}
		matrices = append(matrices, m)
	}
	return matrices
}

// drawer returns numbers below a given one, always the same ones for a beginning.
func drawer(state uint64) func(below int64) int64 {
	return func(below int64) int64 {
		state = state*6364136223846793005 + 1442695040888963407
		return int64(state>>33) % below
	}
}

// someMatrix returns a matrix of a size, some of whose rows and columns are sums of others, or zeros.
func someMatrix(draw func(int64) int64, p int64, rows, cols int64) impl.Matrix {
	m := matrixOf(p, cols)
	for range rows {
		list := make([]int64, cols)
		switch kind := draw(6); {
		case kind == 0:
		case kind < 3 && len(m.Rows) > 0:
			one, other := m.Rows[draw(int64(len(m.Rows)))], m.Rows[draw(int64(len(m.Rows)))]
			factor := draw(p)
			for col := range list {
				list[col] = (one[col]*factor + other[col]) % p
			}
		default:
			for col := range list {
				list[col] = draw(p)
			}
		}
		m.Rows = append(m.Rows, list)
	}
	if cols > 1 && draw(2) == 0 {
		from, to, factor := draw(cols), draw(cols), draw(p)
		for _, list := range m.Rows {
			list[to] = list[from] * factor % p
		}
	}
	return m
}

// goodSquare returns a matrix that has an inverse: a product of ones with 1 in the diagonal and 0 on one side of it, with its rows mixed.
func goodSquare(draw func(int64) int64, p, size int64) impl.Matrix {
	low, high := identity(p, size), identity(p, size)
	for i := range size {
		high.Rows[i][i] = 1 + draw(p-1)
		for col := range i {
			low.Rows[i][col], high.Rows[col][i] = draw(p), draw(p)
		}
	}
	m := productByDefinition(low, high)
	for i := range m.Rows {
		k := draw(int64(i + 1))
		m.Rows[i], m.Rows[k] = m.Rows[k], m.Rows[i]
	}
	return m
}

// emptyMatrices have no rows, or no columns, or neither.
func emptyMatrices() []impl.Matrix {
	var matrices []impl.Matrix
	for _, p := range []int64{2, 3, 31} {
		for cols := range int64(13) {
			matrices = append(matrices, matrixOf(p, cols))
		}
		for rows := 1; rows <= 20; rows++ {
			matrices = append(matrices, matrixOf(p, 0, repeat([]int64{}, rows)...))
		}
	}
	return matrices
}

// largestMatrices are as large as they may be.
func largestMatrices() []impl.Matrix {
	draw := drawer(99)
	var matrices []impl.Matrix
	for _, p := range allPrimes() {
		matrices = append(matrices, someMatrix(draw, p, 20, 12), someMatrix(draw, p, 12, 12), goodSquare(draw, p, 12))
	}
	return append(matrices, matrixOf(31, 12, repeat(repeat(int64(30), 12), 20)...))
}

// everyMatrix runs a check for all small matrices of the least primes, those without rows or columns, and some of each size and prime.
func everyMatrix(check func(m impl.Matrix)) {
	matrices := slices.Concat(emptyMatrices(), largestMatrices())
	for _, size := range [][3]int64{{2, 1, 1}, {2, 1, 2}, {2, 2, 1}, {2, 2, 2}, {2, 3, 2}, {2, 2, 3}, {2, 3, 3}, {2, 4, 2}, {2, 2, 4},
		{3, 1, 1}, {3, 1, 3}, {3, 2, 2}, {3, 3, 1}, {3, 3, 2}, {3, 2, 3}, {5, 1, 2}, {5, 2, 1}, {5, 2, 2}, {31, 1, 1}} {
		matrices = append(matrices, allMatrices(size[0], int(size[1]), int(size[2]))...)
	}
	for _, p := range allPrimes() {
		draw := drawer(uint64(p))
		for range 40 {
			matrices = append(matrices, someMatrix(draw, p, 1+draw(20), 1+draw(12)))
		}
		for size := range int64(12) {
			matrices = append(matrices, someMatrix(draw, p, size, size), goodSquare(draw, p, size))
		}
	}
	for _, m := range matrices {
		check(m)
	}
}

// brokenMatrices are not valid, each for a reason of its own.
func brokenMatrices() []impl.Matrix {
	const least, most = -1 << 63, 1<<63 - 1
	return []impl.Matrix{
		{},
		matrixOf(0, 2, []int64{0, 0}), matrixOf(1, 2, []int64{0, 0}), matrixOf(4, 2, []int64{0, 0}), matrixOf(9, 0), matrixOf(25, 1), matrixOf(27, 0), matrixOf(30, 0),
		matrixOf(32, 0), matrixOf(33, 0), matrixOf(37, 2, []int64{0, 0}), matrixOf(-2, 0), matrixOf(-3, 1, []int64{0}), matrixOf(least, 0), matrixOf(most, 0),
		matrixOf(5, -1), matrixOf(5, 13), matrixOf(5, least), matrixOf(5, most), matrixOf(5, 13, repeat(int64(0), 13)),
		matrixOf(5, 0, repeat([]int64{}, 21)...), matrixOf(5, 1, repeat([]int64{1}, 21)...),
		matrixOf(5, 2, []int64{5, 0}), matrixOf(5, 2, []int64{0, -1}), matrixOf(5, 2, []int64{0, least}), matrixOf(5, 2, []int64{most, 0}), matrixOf(2, 1, []int64{2}), matrixOf(31, 1, []int64{31}),
		matrixOf(5, 2, []int64{0}), matrixOf(5, 2, []int64{0, 0, 0}), matrixOf(5, 2, nil), matrixOf(5, 0, []int64{0}),
		matrixOf(5, 2, []int64{0, 1}, []int64{0}), matrixOf(5, 2, []int64{0, 1}, []int64{1, 0}, []int64{0, 5}), matrixOf(5, 2, []int64{0, 1, 0}, []int64{1}),
	}
}
