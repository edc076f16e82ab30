package tests

import (
	"fmt"
	"math"
	"regexp"
	"slices"
	"strconv"
	"strings"

	"loop.example/g01117/impl"
)

// The functions of this file say of tables, from the words of the document, what the program is to return.

func rowOf(secret int64, shares ...int64) impl.Row {
	return impl.Row{Secret: secret, Shares: shares}
}

// tableOf returns a table, whose rows stay in the order in which they are given.
func tableOf(secrets int64, sizes []int64, rows ...impl.Row) impl.Table {
	return impl.Table{Secrets: secrets, Sizes: sizes, Rows: rows}
}

// compareCases puts rows into their order: that of the lists of the secret and the shares.
func compareCases(a, b impl.Row) int {
	return slices.Compare(append([]int64{a.Secret}, a.Shares...), append([]int64{b.Secret}, b.Shares...))
}

// inOrder returns a table with its rows in order.
func inOrder(t impl.Table) impl.Table {
	t.Rows = slices.Clone(t.Rows)
	slices.SortFunc(t.Rows, compareCases)
	return t
}

func isTable(t impl.Table) bool {
	for _, size := range t.Sizes {
		if size < 1 || size > 64 {
			return false
		}
	}
	for _, r := range t.Rows {
		if len(r.Shares) != len(t.Sizes) || r.Secret < 0 || r.Secret >= t.Secrets {
			return false
		}
		for h, share := range r.Shares {
			if share < 0 || share >= t.Sizes[h] {
				return false
			}
		}
	}
	return t.Secrets >= 1 && t.Secrets <= 64 && len(t.Sizes) >= 1 && len(t.Sizes) <= 7 && len(t.Rows) >= 1 && len(t.Rows) <= 700 &&
		slices.IsSortedFunc(t.Rows, compareCases)
}

func listText(list []int64) string {
	text := ""
	for _, n := range list {
		text += " " + strconv.FormatInt(n, 10)
	}
	return text
}

func tableText(t impl.Table) string {
	var b strings.Builder
	fmt.Fprintf(&b, "table %d%s\n", t.Secrets, listText(t.Sizes))
	for _, r := range t.Rows {
		fmt.Fprintf(&b, "row %d :%s\n", r.Secret, listText(r.Shares))
	}
	return b.String()
}

var tableForm = regexp.MustCompile(`^table (0|[1-9][0-9]*)(( (0|[1-9][0-9]*))*)\n((row (0|[1-9][0-9]*) :( (0|[1-9][0-9]*))*\n)*)$`)

// tableWithText returns the table of a text, if it is one.
func tableWithText(text string) (impl.Table, bool) {
	parts := tableForm.FindStringSubmatch(text)
	if parts == nil {
		return impl.Table{}, false
	}
	good := true
	number := func(word string) int64 {
		n, err := strconv.ParseInt(word, 10, 64)
		good = good && err == nil
		return n
	}
	t := tableOf(number(parts[1]), nil)
	for _, word := range strings.Fields(parts[2]) {
		t.Sizes = append(t.Sizes, number(word))
	}
	for _, line := range strings.Split(parts[5], "\n") {
		if words := strings.Fields(line); len(words) > 0 {
			r := rowOf(number(words[1]))
			for _, word := range words[3:] {
				r.Shares = append(r.Shares, number(word))
			}
			t.Rows = append(t.Rows, r)
		}
	}
	return t, good && isTable(t)
}

// table returns the table with a text that is known to be one.
func table(text string) impl.Table {
	t, ok := tableWithText(text)
	if !ok {
		panic("no table: " + text)
	}
	return t
}

func holdersOf(t impl.Table) int { return len(t.Sizes) }

// seenIn returns what the holders in a mask see in a row.
func seenIn(r impl.Row, mask int) []int64 {
	view := []int64{}
	for h, share := range r.Shares {
		if mask>>h&1 == 1 {
			view = append(view, share)
		}
	}
	return view
}

// viewsBy returns all views of the holders in a mask, in their order, and for each of them the number of rows with each secret.
func viewsBy(t impl.Table, mask int) (views, counts [][]int64) {
	for _, r := range t.Rows {
		views = append(views, seenIn(r, mask))
	}
	slices.SortFunc(views, slices.Compare)
	views = slices.CompactFunc(views, slices.Equal)
	for range views {
		counts = append(counts, make([]int64, t.Secrets))
	}
	for _, r := range t.Rows {
		i, _ := slices.BinarySearchFunc(views, seenIn(r, mask), slices.Compare)
		counts[i][r.Secret]++
	}
	return views, counts
}

func sumUp(list []int64) int64 {
	sum := int64(0)
	for _, n := range list {
		sum += n
	}
	return sum
}

// secretCounts returns how many rows have each secret.
func secretCounts(t impl.Table) []int64 {
	counts := make([]int64, t.Secrets)
	for _, r := range t.Rows {
		counts[r.Secret]++
	}
	return counts
}

func opensAll(counts [][]int64) bool {
	for _, count := range counts {
		if len(secrets(count)) > 1 {
			return false
		}
	}
	return true
}

// hidesAll reports whether each count is its part of the rows with a secret.
func hidesAll(t impl.Table, counts [][]int64) bool {
	all := secretCounts(t)
	for _, count := range counts {
		for secret, n := range count {
			if n*int64(len(t.Rows)) != sumUp(count)*all[secret] {
				return false
			}
		}
	}
	return true
}

// chanceOf returns the chance of the best guess as a fraction in lowest terms.
func chanceOf(t impl.Table, counts [][]int64) (int64, int64) {
	right, rows := int64(0), int64(len(t.Rows))
	for _, count := range counts {
		right += slices.Max(count)
	}
	divisor := rows
	for right%divisor != 0 || rows%divisor != 0 {
		divisor--
	}
	return right / divisor, rows / divisor
}

func ruleOfTable(t impl.Table) rule {
	return newRule(holdersOf(t), func(mask int) bool {
		_, counts := viewsBy(t, mask)
		return opensAll(counts)
	})
}

// leaksBy returns the groups that see something, but not enough.
func leaksBy(t impl.Table) [][]int64 {
	return ruleOfTable(t).lists(func(mask int) bool {
		_, counts := viewsBy(t, mask)
		return !opensAll(counts) && !hidesAll(t, counts)
	})
}

// crossedBy returns the table, of any size, with a row for each pair of rows whose secrets make one that is not negative.
func crossedBy(t, u impl.Table, secrets int64, secretOf func(a, b int64) int64) impl.Table {
	result := tableOf(secrets, nil)
	for h := range t.Sizes {
		result.Sizes = append(result.Sizes, t.Sizes[h]*u.Sizes[h])
	}
	for _, a := range t.Rows {
		for _, b := range u.Rows {
			secret := secretOf(a.Secret, b.Secret)
			if secret < 0 {
				continue
			}
			r := rowOf(secret)
			for h, share := range a.Shares {
				r.Shares = append(r.Shares, share*u.Sizes[h]+b.Shares[h])
			}
			result.Rows = append(result.Rows, r)
		}
	}
	return inOrder(result)
}

func joinedBy(t, u impl.Table) impl.Table {
	return crossedBy(t, u, t.Secrets, func(a, b int64) int64 {
		if a != b {
			return -1
		}
		return a
	})
}

func summedBy(t, u impl.Table) impl.Table {
	return crossedBy(t, u, t.Secrets, func(a, b int64) int64 { return (a + b) % t.Secrets })
}

func pairedBy(t, u impl.Table) impl.Table {
	return crossedBy(t, u, t.Secrets*u.Secrets, func(a, b int64) int64 { return a*u.Secrets + b })
}

// isSmallTable reports whether no limit is passed.
func isSmallTable(t impl.Table) bool {
	return t.Secrets <= 64 && slices.Max(t.Sizes) <= 64 && len(t.Rows) <= 700
}

// withoutColumn returns a table without a holder.
func withoutColumn(t impl.Table, h int) impl.Table {
	result := tableOf(t.Secrets, slices.Delete(slices.Clone(t.Sizes), h, h+1))
	for _, r := range t.Rows {
		result.Rows = append(result.Rows, rowOf(r.Secret, slices.Delete(slices.Clone(r.Shares), h, h+1)...))
	}
	return inOrder(result)
}

// rowsWith returns a table with those rows in which a holder has a share.
func rowsWith(t impl.Table, h int, value int64) impl.Table {
	result := tableOf(t.Secrets, t.Sizes)
	for _, r := range t.Rows {
		if r.Shares[h] == value {
			result.Rows = append(result.Rows, r)
		}
	}
	return result
}

// columnsIn returns a table with its holders in another order.
func columnsIn(t impl.Table, order []int64) impl.Table {
	result := tableOf(t.Secrets, nil)
	for _, h := range order {
		result.Sizes = append(result.Sizes, t.Sizes[h])
	}
	for _, r := range t.Rows {
		moved := rowOf(r.Secret)
		for _, h := range order {
			moved.Shares = append(moved.Shares, r.Shares[h])
		}
		result.Rows = append(result.Rows, moved)
	}
	return inOrder(result)
}

// curveTableBy returns the table of all curves, which have to be few.
func curveTableBy(p, degree int64, points []int64) impl.Table {
	t := tableOf(p, repeat(p, len(points)))
	for _, c := range allLists(p, int(degree+1)) {
		t.Rows = append(t.Rows, rowOf(c[0], valuesOn(p, c, points)...))
	}
	return inOrder(t)
}

// schemeTableBy returns the table of a scheme, whose secrets and blinds have to be few.
func schemeTableBy(s impl.Scheme) impl.Table {
	p := s.Matrix.Prime
	t := tableOf(p, repeat(int64(1), int(s.Holders)))
	for _, owner := range s.Owners {
		t.Sizes[owner] *= p
	}
	for _, drawn := range allLists(p, int(s.Matrix.Cols)) {
		r := rowOf(drawn[0])
		for h := range s.Holders {
			share := int64(0)
			for _, n := range sharesBy(matrixHeldBy(s, 1<<h), drawn) {
				share = share*p + n
			}
			r.Shares = append(r.Shares, share)
		}
		t.Rows = append(t.Rows, r)
	}
	return inOrder(t)
}

// hasSmallTable reports whether no limit is passed by the table of a scheme.
func hasSmallTable(s impl.Scheme) bool {
	held := make([]int, s.Holders)
	for _, owner := range s.Owners {
		held[owner]++
	}
	return countLists(s) <= 700 && math.Pow(float64(s.Matrix.Prime), float64(slices.Max(held))) <= 64
}

// familyTableBy returns the table of a family, which has to be small: of all numbers for all holders of all least groups, those whose sums are the secret.
func familyTableBy(f impl.Family, secrets int64) impl.Table {
	t := tableOf(secrets, repeat(int64(1), int(f.Holders)))
	for secret := range secrets {
		rows := []impl.Row{rowOf(secret, make([]int64, f.Holders)...)}
		for _, group := range f.Groups {
			var longer []impl.Row
			for _, r := range rows {
				for _, parts := range allLists(secrets, len(group)) {
					if sumUp(parts)%secrets != secret {
						continue
					}
					next := rowOf(secret, slices.Clone(r.Shares)...)
					for i, h := range group {
						next.Shares[h] = next.Shares[h]*secrets + parts[i]
					}
					longer = append(longer, next)
				}
			}
			rows = longer
		}
		t.Rows = append(t.Rows, rows...)
	}
	for _, group := range f.Groups {
		for _, h := range group {
			t.Sizes[h] *= secrets
		}
	}
	return inOrder(t)
}

// familyTableSize returns the number of rows and the greatest size of the table of a family, or what is too large.
func familyTableSize(f impl.Family, secrets int64) (rows, size float64) {
	numbers, base := 1, float64(secrets)
	held := make([]int, f.Holders)
	for _, group := range f.Groups {
		numbers += len(group) - 1
		for _, h := range group {
			held[h]++
		}
	}
	return math.Pow(base, float64(numbers)), math.Pow(base, float64(slices.Max(held)))
}

// allRowsOf returns all rows that a table may have.
func allRowsOf(secrets int64, sizes []int64) []impl.Row {
	var rows []impl.Row
	for secret := range secrets {
		shares := [][]int64{{}}
		for _, size := range sizes {
			var longer [][]int64
			for _, list := range shares {
				for share := range size {
					longer = append(longer, append(slices.Clone(list), share))
				}
			}
			shares = longer
		}
		for _, list := range shares {
			rows = append(rows, rowOf(secret, list...))
		}
	}
	return rows
}

// tablesWith returns all tables of some sizes with 1 to so many rows; rows may occur several times.
func tablesWith(secrets int64, most int, sizes ...int64) []impl.Table {
	var tables []impl.Table
	all := allRowsOf(secrets, sizes)
	var choose func(chosen []impl.Row, from int)
	choose = func(chosen []impl.Row, from int) {
		if len(chosen) > 0 {
			tables = append(tables, tableOf(secrets, sizes, slices.Clone(chosen)...))
		}
		for i := from; i < len(all) && len(chosen) < most; i++ {
			choose(append(slices.Clone(chosen), all[i]), i)
		}
	}
	choose(nil, 0)
	return tables
}

// smallTables are all tables of some sizes: some with one row, one secret, or holders who have the same share always.
func smallTables() []impl.Table {
	return slices.Concat(tablesWith(1, 4, 1), tablesWith(1, 4, 3), tablesWith(2, 4, 1), tablesWith(2, 5, 2), tablesWith(3, 4, 2), tablesWith(2, 3, 2, 2),
		tablesWith(2, 4, 1, 2), tablesWith(3, 3, 2, 1), tablesWith(2, 3, 2, 1, 2), tablesWith(1, 2, 2, 1, 2), tablesWith(2, 2, 2, 2, 2), tablesWith(2, 2, 1, 1, 1, 1, 1, 1, 1))
}

// someTable returns a table of a size; its numbers are often small, so that rows and views occur several times.
func someTable(draw func(int64) int64, secrets, holders, rows int64) impl.Table {
	t := tableOf(secrets, nil)
	for range holders {
		t.Sizes = append(t.Sizes, 1+draw(1+draw(64)))
	}
	few := 1 + draw(6)
	for range rows {
		r := rowOf(draw(secrets))
		if draw(3) > 0 {
			r.Secret = draw(min(secrets, few))
		}
		for _, size := range t.Sizes {
			share := draw(min(size, few))
			if draw(4) == 0 {
				share = draw(size)
			}
			r.Shares = append(r.Shares, share)
		}
		t.Rows = append(t.Rows, r)
	}
	return inOrder(t)
}

// someTables returns a few tables of all numbers of holders, with up to as many rows and secrets as there may be.
func someTables() []impl.Table {
	var tables []impl.Table
	for holders := int64(1); holders <= 7; holders++ {
		draw := drawer(uint64(holders) + 1100)
		for range 12 {
			tables = append(tables, someTable(draw, 1+draw(5), holders, 1+draw(30)), someTable(draw, 1+draw(64), holders, 1+draw(100)), someTable(draw, 2, holders, 1+draw(6)))
		}
		tables = append(tables, someTable(draw, 64, holders, 700), someTable(draw, 2, holders, 700), someTable(draw, 1, holders, 50))
	}
	return tables
}

// perfectTables are tables of families, curves and schemes, with the families that they should have.
func perfectTables() []ruledTable {
	var tables []ruledTable
	for holders := 1; holders <= 4; holders++ {
		for i, r := range append(allRules(min(holders, 3)), someRules(holders, 12)...) {
			f := r.family()
			if f.Groups == nil || len(f.Groups[0]) == 0 {
				continue
			}
			secrets := int64(2 + i%3)
			if rows, size := familyTableSize(f, secrets); rows <= 700 && size <= 64 {
				tables = append(tables, ruledTable{familyTableBy(f, secrets), r})
			}
		}
	}
	everyCurveScheme(func(s impl.Scheme, p, holders, least int64) {
		if powerOf(p, least) <= 200 {
			tables = append(tables, ruledTable{schemeTableBy(s), ruleOfScheme(s)})
		}
	})
	for i, s := range smallSchemes() {
		if i%37 == 0 && hasSmallTable(s) {
			tables = append(tables, ruledTable{schemeTableBy(s), ruleOfScheme(s)})
		}
	}
	return tables
}

// ruledTable is a table with the rule that it should have.
type ruledTable struct {
	impl.Table
	rule rule
}

// everyTable runs a check for all small tables, for some others, and for some that are perfect.
func everyTable(check func(t impl.Table)) {
	for _, t := range slices.Concat(smallTables(), someTables()) {
		check(t)
	}
	for i, t := range perfectTables() {
		if i%3 == 0 {
			check(t.Table)
		}
	}
}

// brokenTables are not valid, each for a reason of its own; the last ones only because of the order of their rows.
func brokenTables() []impl.Table {
	const least, most = math.MinInt64, math.MaxInt64
	one, two := []int64{2}, []int64{2, 3}
	tables := []impl.Table{
		{}, tableOf(1, nil), tableOf(1, nil, rowOf(0)), tableOf(2, one), tableOf(2, one, []impl.Row{}...),
		tableOf(2, []int64{0}, rowOf(0, 0)), tableOf(2, []int64{-1}, rowOf(0, 0)), tableOf(2, []int64{65}, rowOf(0, 0)), tableOf(2, []int64{2, 0}, rowOf(0, 0, 0)), tableOf(2, []int64{2, 65, 2}, rowOf(0, 0, 0, 0)),
		tableOf(2, []int64{least}, rowOf(0, 0)), tableOf(2, []int64{most}, rowOf(0, 0)), tableOf(2, repeat(int64(1), 8), rowOf(0, make([]int64, 8)...)), tableOf(2, repeat(int64(1), 300), rowOf(0, make([]int64, 300)...)),
		tableOf(2, one, rowOf(2, 0)), tableOf(2, one, rowOf(-1, 0)), tableOf(2, one, rowOf(least, 0)), tableOf(2, one, rowOf(most, 0)), tableOf(1, one, rowOf(0, 0), rowOf(1, 0)), tableOf(64, one, rowOf(64, 0)),
		tableOf(2, one, rowOf(0, 2)), tableOf(2, one, rowOf(0, -1)), tableOf(2, one, rowOf(0, least)), tableOf(2, one, rowOf(0, most)), tableOf(2, []int64{64}, rowOf(0, 64)), tableOf(2, []int64{1}, rowOf(0, 1)),
		tableOf(2, two, rowOf(0, 0, 3)), tableOf(2, two, rowOf(0, 2, 0)), tableOf(2, two, rowOf(0, 0, -1)), tableOf(2, two, rowOf(0, 0, 0), rowOf(0, 0, 3)), tableOf(2, two, rowOf(0, 0, 0), rowOf(1, 2, 0)), tableOf(2, two, rowOf(0, 0, 0), rowOf(2, 0, 0)), tableOf(2, two, rowOf(-1, 0, 0), rowOf(0, 0, 0)),
		tableOf(2, one, rowOf(0)), tableOf(2, one, rowOf(0, 0, 0)), tableOf(2, two, rowOf(0, 0)), tableOf(2, two, rowOf(0, 0, 0), rowOf(1)), tableOf(2, two, rowOf(0), rowOf(0, 0, 0)), tableOf(2, two, rowOf(0, 0, 0), rowOf(0, 0, 0, 0)), tableOf(2, two, rowOf(0, 0, 0, 0)),
		tableOf(2, one, repeat(rowOf(0, 0), 701)...), tableOf(64, []int64{64}, repeat(rowOf(63, 63), 701)...), tableOf(2, one, repeat(rowOf(1, 1), 5000)...),
	}
	for _, secrets := range []int64{least, -1, 0, 65, 66, 1 << 32, most} {
		tables = append(tables, tableOf(secrets, one, rowOf(0, 0)))
	}
	return append(tables, unorderedTables()...)
}

// unorderedTables are not valid because of the order of their rows alone.
func unorderedTables() []impl.Table {
	one, two := []int64{2}, []int64{2, 3}
	return []impl.Table{
		tableOf(2, one, rowOf(1, 0), rowOf(0, 0)), tableOf(2, one, rowOf(1, 0), rowOf(0, 1)), tableOf(2, one, rowOf(0, 1), rowOf(0, 0)), tableOf(2, one, rowOf(0, 0), rowOf(1, 1), rowOf(1, 0)),
		tableOf(2, two, rowOf(0, 0, 1), rowOf(0, 0, 0)), tableOf(2, two, rowOf(0, 1, 0), rowOf(0, 0, 2)), tableOf(2, two, rowOf(0, 1, 2), rowOf(0, 0, 0)), tableOf(2, two, rowOf(1, 0, 0), rowOf(0, 1, 2)),
		tableOf(2, two, rowOf(0, 0, 0), rowOf(1, 0, 0), rowOf(0, 0, 0)), tableOf(2, two, rowOf(0, 0, 0), rowOf(0, 0, 1), rowOf(0, 0, 0)), tableOf(2, one, append(repeat(rowOf(0, 1), 699), rowOf(0, 0))...),
	}
}
