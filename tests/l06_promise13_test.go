package tests

import (
	"math"
	"slices"
	"testing"

	"loop.example/g01117/impl"
)

// checkPerfect checks that a table leaks to nobody, and has the family of a rule.
func checkPerfect(t *testing.T, what string, x impl.Table, r rule) {
	t.Helper()
	expect(t, "IsPerfect of "+what, show(impl.IsPerfect(x)), true, impl.OK)
	expect(t, "LeakyGroups of "+what, show(impl.LeakyGroups(x)), [][]int64{}, impl.OK)
	expect(t, "TableFamily of "+what, show(impl.TableFamily(x)), r.family(), impl.OK)
}

// checkMade compares a table, made by the program, with the wanted one, unless this is too large.
func checkMade(t *testing.T, what string, made impl.Table, code int64, wanted impl.Table) {
	t.Helper()
	if !isSmallTable(wanted) {
		expect(t, what, show(made, code), impl.Table{}, impl.ErrLimit)
		return
	}
	expect(t, what, show(made, code, impl.ValidTable(made)), wanted, impl.OK, true)
}

// opensSomehow reports whether somebody opens, but not everybody.
func opensSomehow(r rule) bool { return r[len(r)-1] && !r[0] }

func TestPromise13Families(t *testing.T) {
	made, refused := 0, 0
	everyRule(func(r rule, f impl.Family) {
		for secrets := int64(1); secrets <= 8; secrets++ {
			what := "FamilyTable of " + r.text() + show(secrets)
			x, code := impl.FamilyTable(f, secrets)
			if !opensSomehow(r) {
				expect(t, what, show(x, code), impl.Table{}, impl.ErrRange)
				continue
			}
			if rows, size := familyTableSize(f, secrets); rows > 700 || size > 64 {
				refused++
				expect(t, what, show(x, code), impl.Table{}, impl.ErrLimit)
				continue
			}
			made++
			checkMade(t, what, x, code, familyTableBy(f, secrets))
			if secrets > 1 {
				checkPerfect(t, what, x, r)
			}
		}
	})
	if made < 300 || refused < 300 {
		t.Errorf("%d tables that are made and %d that are too large are too few", made, refused)
	}
}

// starFamily returns the family in which the first holder opens with any one of so many others.
func starFamily(others int64) impl.Family {
	f := family(7)
	for h := range others {
		f.Groups = append(f.Groups, []int64{0, h + 1})
	}
	return f
}

// TestPromise13FamilyLimits has families whose rows, and others whose shares, are as many as there may be, or more.
func TestPromise13FamilyLimits(t *testing.T) {
	families := []impl.Family{family(1, []int64{0}), family(2, []int64{0, 1}), family(3, []int64{0}, []int64{1}, []int64{2}), family(7, []int64{6}), family(7, []int64{0, 1, 2}), family(7, countTo(7)),
		family(6, countTo(3), []int64{3, 4, 5}), family(7, countTo(4), []int64{3, 4, 5, 6}), family(7, countTo(5), []int64{2, 3, 4, 5, 6}), family(7, countTo(6), []int64{2, 3, 4, 5, 6}), family(4, []int64{0, 1, 2}, []int64{0, 1, 3}, []int64{0, 2, 3}, []int64{1, 2, 3})}
	for others := range int64(6) {
		families = append(families, starFamily(others+1))
	}
	for _, f := range families {
		for secrets := int64(1); secrets <= 64; secrets++ {
			x, code := impl.FamilyTable(f, secrets)
			what := "FamilyTable of " + show(f, secrets)
			if rows, size := familyTableSize(f, secrets); rows > 700 || size > 64 {
				expect(t, what, show(x, code), impl.Table{}, impl.ErrLimit)
				continue
			}
			checkMade(t, what, x, code, familyTableBy(f, secrets))
		}
		for _, secrets := range []int64{math.MinInt64, -2, -1, 0, 65, 66, 1 << 32, math.MaxInt64} {
			expect(t, "so many secrets", show(impl.FamilyTable(f, secrets)), impl.Table{}, impl.ErrRange)
		}
	}
	sizes := func(f impl.Family, secrets int64) string {
		x, code := impl.FamilyTable(f, secrets)
		return show(len(x.Rows), x.Sizes, code)
	}
	shared := table("table 2 2 4 2\nrow 0 : 0 0 0\nrow 0 : 0 1 1\nrow 0 : 1 2 0\nrow 0 : 1 3 1\nrow 1 : 0 2 1\nrow 1 : 0 3 0\nrow 1 : 1 0 1\nrow 1 : 1 1 0\n")
	expect(t, "a holder of two groups", show(impl.FamilyTable(family(3, []int64{0, 1}, []int64{1, 2}), 2)), shared, impl.OK)
	expect(t, "512 rows", sizes(family(7, countTo(6), []int64{2, 3, 4, 6}), 2), 512, []int64{2, 2, 4, 4, 4, 2, 2}, impl.OK)
	expect(t, "1024 rows", sizes(family(7, countTo(6), []int64{2, 3, 4, 5, 6}), 2), 0, []int64{}, impl.ErrLimit)
	expect(t, "676 rows", sizes(family(2, []int64{0, 1}), 26), 676, []int64{26, 26}, impl.OK)
	expect(t, "729 rows", sizes(family(2, []int64{0, 1}), 27), 0, []int64{}, impl.ErrLimit)
	expect(t, "64 shares", sizes(starFamily(3), 4), 256, []int64{64, 4, 4, 4, 1, 1, 1}, impl.OK)
	expect(t, "243 rows, but 81 shares", sizes(starFamily(4), 3), 0, []int64{}, impl.ErrLimit)
	expect(t, "64 secrets", sizes(family(2, []int64{1}), 64), 64, []int64{1, 64}, impl.OK)
}

func TestPromise13FamilyErrors(t *testing.T) {
	for _, secrets := range []int64{math.MinInt64, -1, 0, 1, 2, 64, 65, math.MaxInt64} {
		for _, f := range brokenFamilies() {
			expect(t, "FamilyTable of a broken family", show(impl.FamilyTable(f, secrets)), impl.Table{}, impl.ErrInvalid)
		}
		for holders := int64(1); holders <= 7; holders++ {
			expect(t, "FamilyTable of nobody", show(impl.FamilyTable(nobody(holders), secrets)), impl.Table{}, impl.ErrRange)
			expect(t, "FamilyTable of everybody", show(impl.FamilyTable(everybody(holders), secrets)), impl.Table{}, impl.ErrRange)
		}
	}
	triples, _ := impl.ThresholdFamily(7, 3)
	expect(t, "no secrets for too large a table", show(impl.FamilyTable(triples, 0)), impl.Table{}, impl.ErrRange)
	expect(t, "too large a table", show(impl.FamilyTable(triples, 2)), impl.Table{}, impl.ErrLimit)
	expect(t, "one secret", show(impl.FamilyTable(triples, 1)), tableOf(1, repeat(int64(1), 7), rowOf(0, make([]int64, 7)...)), impl.OK)
}

// pointsToTry are all points of the least primes, and some of all others.
func pointsToTry(p int64) [][]int64 {
	lists := [][]int64{{1}, {p - 1}, countTo(min(p, 8))[1:]}
	if p <= 5 {
		lists = allPoints(p)[1:]
	}
	draw := drawer(uint64(p) + 1300)
	for count := int64(1); count <= min(p-1, 7); count++ {
		lists = append(lists, somePoints(draw, p, count))
	}
	return lists
}

// TestPromise13Curves has all degrees, and so also curves whose last coefficients are 0.
func TestPromise13Curves(t *testing.T) {
	for _, p := range allPrimes() {
		for degree := range int64(7) {
			for _, points := range pointsToTry(p) {
				what := "CurveTable of " + show(p, degree, points)
				x, code := impl.CurveTable(p, degree, points)
				if powerOf(p, degree+1) > 700 {
					expect(t, what, show(x, code), impl.Table{}, impl.ErrLimit)
					continue
				}
				checkMade(t, what, x, code, curveTableBy(p, degree, points))
				checkPerfect(t, what, x, newRule(len(points), func(mask int) bool { return int64(len(members(mask))) > degree }))
			}
		}
	}
	x, code := impl.CurveTable(2, 6, []int64{1})
	expect(t, "more coefficients than points", show(len(x.Rows), x.Secrets, x.Sizes, code), 128, 2, []int64{2}, impl.OK)
	x, code = impl.CurveTable(5, 3, []int64{1, 2, 3, 4})
	expect(t, "625 rows", show(len(x.Rows), x.Secrets, x.Sizes, code), 625, 5, []int64{5, 5, 5, 5}, impl.OK)
	expect(t, "729 rows", show(impl.CurveTable(3, 5, []int64{1, 2})), impl.Table{}, impl.ErrLimit)
}

func TestPromise13CurveErrors(t *testing.T) {
	none := impl.Table{}
	for _, p := range notPrimes() {
		for _, degree := range []int64{0, 1, 6, 7, -1} {
			for _, points := range [][]int64{nil, {1}, {0}, {1, 2}, countTo(9)[1:]} {
				expect(t, "CurveTable without a prime", show(impl.CurveTable(p, degree, points)), none, impl.ErrInvalid)
			}
		}
	}
	for _, p := range allPrimes() {
		good := countTo(min(p, 8))[1:]
		for _, degree := range []int64{math.MinInt64, -2, -1, 7, 8, 1 << 32, math.MaxInt64} {
			expect(t, "CurveTable with the degree "+show(degree), show(impl.CurveTable(p, degree, good)), none, impl.ErrRange)
		}
		for _, degree := range []int64{0, 1, 6} {
			for _, points := range append(brokenPoints(p), nil, countTo(9)[1:], countTo(11)[1:], countTo(10)[1:]) {
				expect(t, "CurveTable at "+show(p, points), show(impl.CurveTable(p, degree, points)), none, impl.ErrRange)
			}
		}
		_, code := impl.CurveTable(p, 0, good)
		expect(t, "as many points as there may be", show(code), impl.OK)
		_, code = impl.CurveTable(p, 0, append(slices.Clone(good), good[len(good)-1]+1))
		expect(t, "a point too many", show(code), impl.ErrRange)
	}
}

func TestPromise13Schemes(t *testing.T) {
	made, refused := 0, 0
	for i, s := range slices.Concat(smallSchemes(), someSchemes()) {
		what := "SchemeTable of " + schemeText(s)
		x, code := impl.SchemeTable(s)
		if !hasSmallTable(s) {
			refused++
			expect(t, what, show(x, code), impl.Table{}, impl.ErrLimit)
			continue
		}
		checkMade(t, what, x, code, schemeTableBy(s))
		if i%3 == 0 {
			made++
			checkPerfect(t, what, x, ruleOfScheme(s))
			f, _ := impl.FamilyOfScheme(s)
			expect(t, "the family of "+what, show(impl.TableFamily(x)), f, impl.OK)
		}
	}
	if made < 300 || refused < 300 {
		t.Errorf("%d tables that are made and %d that are too large are too few", made, refused)
	}
	for _, s := range brokenSchemes() {
		expect(t, "SchemeTable of a broken scheme", show(impl.SchemeTable(s)), impl.Table{}, impl.ErrInvalid)
	}
	// Of the secret 1 and the blind 0, the last holder has the shares 1, 0 and 2: 1 * 9 + 0 * 3 + 2 is 11.
	s := scheme("scheme 3 3 2\nrow C 1 1\nrow A 1 2\nrow C 0 2\nrow C 2 2\n")
	wanted := table("table 3 3 1 27\nrow 0 : 0 0 0\nrow 0 : 1 0 22\nrow 0 : 2 0 17\nrow 1 : 0 0 25\nrow 1 : 1 0 11\nrow 1 : 2 0 3\nrow 2 : 0 0 14\nrow 2 : 1 0 6\nrow 2 : 2 0 19\n")
	expect(t, "shares of several rows", show(impl.SchemeTable(s)), wanted, impl.OK)
	nothing := scheme("scheme 2 3 1\n")
	expect(t, "no rows", show(impl.SchemeTable(nothing)), table("table 3 1 1\nrow 0 : 0 0\nrow 1 : 0 0\nrow 2 : 0 0\n"), impl.OK)
}

// TestPromise13SchemeLimits has for each prime as many rows and columns as there may be, and one more.
func TestPromise13SchemeLimits(t *testing.T) {
	for _, p := range allPrimes() {
		for cols := int64(1); cols <= 12; cols++ {
			for rows := range 9 {
				s := schemeOf(3, repeat(int64(1), rows), matrixOf(p, cols, repeat(unit(cols, 0), rows)...))
				x, code := impl.SchemeTable(s)
				if powerOf(p, cols) > 700 || powerOf(p, int64(rows)) > 64 {
					expect(t, "SchemeTable of "+show(p, rows, cols), show(x, code), impl.Table{}, impl.ErrLimit)
					continue
				}
				expect(t, "SchemeTable of "+show(p, rows, cols), show(len(x.Rows), x.Secrets, x.Sizes, code), powerOf(p, cols), p, []int64{1, powerOf(p, int64(rows)), 1}, impl.OK)
				checkMade(t, "SchemeTable", x, code, schemeTableBy(s))
			}
		}
	}
	most := schemeOf(7, repeat(int64(6), 20), matrixOf(31, 12, repeat(repeat(int64(30), 12), 20)...))
	expect(t, "the greatest scheme", show(impl.SchemeTable(most)), impl.Table{}, impl.ErrLimit)
}

// checkCrossed compares all tables that are made of two with the definition.
func checkCrossed(t *testing.T, x, y impl.Table) {
	t.Helper()
	none, what := impl.Table{}, tableText(x)+"and "+tableText(y)
	join, one := impl.JoinTables(x, y)
	sum, two := impl.SumTables(x, y)
	pair, three := impl.PairTables(x, y)
	if holdersOf(x) != holdersOf(y) {
		expect(t, "other holders in "+what, show(join, one, sum, two, pair, three), none, impl.ErrRange, none, impl.ErrRange, none, impl.ErrRange)
		return
	}
	checkMade(t, "PairTables of "+what, pair, three, pairedBy(x, y))
	if x.Secrets != y.Secrets {
		expect(t, "other secrets in "+what, show(join, one, sum, two), none, impl.ErrRange, none, impl.ErrRange)
		return
	}
	checkMade(t, "SumTables of "+what, sum, two, summedBy(x, y))
	if wanted := joinedBy(x, y); len(wanted.Rows) == 0 {
		expect(t, "no secret in both of "+what, show(join, one), none, impl.ErrRange)
	} else {
		checkMade(t, "JoinTables of "+what, join, one, wanted)
	}
}

func TestPromise13Crossed(t *testing.T) {
	small, some := smallTables(), someTables()
	for i := range small {
		for k := i % 97; k < len(small); k += 97 {
			checkCrossed(t, small[i], small[k])
		}
	}
	for i := range some {
		for k := range some {
			if len(some[i].Rows)*len(some[k].Rows) < 2000 && (i+k)%4 == 0 {
				checkCrossed(t, some[i], some[k])
			}
		}
		checkCrossed(t, some[i], small[i])
		checkCrossed(t, small[i], some[i])
	}
	checkCrossed(t, table("table 2 1\nrow 0 : 0\n"), table("table 2 1\nrow 1 : 0\n"))
	checkCrossed(t, table("table 5 7 2\nrow 3 : 6 1\n"), table("table 5 3 5\nrow 3 : 2 4\n"))
}

// repeated returns a table of one secret with the same row so many times.
func repeated(secrets, secret int64, sizes []int64, rows int) impl.Table {
	return tableOf(secrets, sizes, repeat(rowOf(secret, make([]int64, len(sizes))...), rows)...)
}

// TestPromise13CrossLimits has as many rows, secrets and shares as there may be, and more.
func TestPromise13CrossLimits(t *testing.T) {
	one := []int64{1}
	all := func(x, y impl.Table) string {
		join, first := impl.JoinTables(x, y)
		sum, second := impl.SumTables(x, y)
		pair, third := impl.PairTables(x, y)
		return show(len(join.Rows), first, len(sum.Rows), second, len(pair.Rows), third)
	}
	for _, rows := range [][2]int{{1, 700}, {700, 1}, {28, 25}, {25, 28}, {2, 350}, {26, 27}, {27, 26}, {2, 351}, {700, 2}, {700, 700}, {1, 1}} {
		product, codes := rows[0]*rows[1], impl.OK
		if product > 700 {
			product, codes = 0, impl.ErrLimit
		}
		expect(t, "rows "+show(rows), all(repeated(3, 2, one, rows[0]), repeated(3, 2, one, rows[1])), product, codes, product, codes, product, codes)
	}
	// One more row with another secret makes 701 rows with a secret in common.
	x, y := repeated(3, 0, one, 25), repeated(3, 0, one, 28)
	x.Rows, y.Rows = append(x.Rows, rowOf(1, 0)), append(y.Rows, rowOf(1, 0))
	expect(t, "701 rows", show(impl.JoinTables(x, y)), impl.Table{}, impl.ErrLimit)
	x.Rows[25].Secret = 2
	expect(t, "700 rows", all(x, y), 700, impl.OK, 0, impl.ErrLimit, 0, impl.ErrLimit)
	for _, sizes := range [][2]int64{{8, 8}, {64, 1}, {1, 64}, {32, 2}, {5, 13}, {13, 5}, {11, 6}, {64, 2}, {64, 64}, {63, 1}} {
		count, code := 1, impl.OK
		if sizes[0]*sizes[1] > 64 {
			count, code = 0, impl.ErrLimit
		}
		first, second := []int64{2, sizes[0], 3}, []int64{2, sizes[1], 1}
		expect(t, "shares "+show(sizes), all(repeated(2, 1, first, 1), repeated(2, 1, second, 1)), count, code, count, code, count, code)
		x, y := tableOf(1, first, rowOf(0, 1, sizes[0]-1, 2)), tableOf(1, second, rowOf(0, 1, sizes[1]-1, 0))
		pair, third := impl.PairTables(x, y)
		checkMade(t, "the greatest shares", pair, third, tableOf(1, []int64{4, sizes[0] * sizes[1], 3}, rowOf(0, 3, sizes[0]*sizes[1]-1, 2)))
		secrets := sizes
		pair, third = impl.PairTables(repeated(secrets[0], secrets[0]-1, one, 1), repeated(secrets[1], secrets[1]-1, one, 1))
		checkMade(t, "secrets "+show(secrets), pair, third, repeated(secrets[0]*secrets[1], secrets[0]*secrets[1]-1, one, 1))
		expect(t, "as many secrets", show(impl.JoinTables(repeated(64, 63, one, 1), repeated(64, 63, one, 1))), repeated(64, 63, one, 1), impl.OK)
		expect(t, "as many secrets", show(impl.SumTables(repeated(64, 63, one, 1), repeated(64, 63, one, 1))), repeated(64, 62, one, 1), impl.OK)
	}
}

// TestPromise13CrossErrors gives tables that are not valid, and those that do not fit together and would be too large.
func TestPromise13CrossErrors(t *testing.T) {
	check := func(x, y impl.Table, join, sum, pair int64) {
		t.Helper()
		none := impl.Table{}
		expect(t, "JoinTables", show(impl.JoinTables(x, y)), none, join)
		expect(t, "SumTables", show(impl.SumTables(x, y)), none, sum)
		expect(t, "PairTables", show(impl.PairTables(x, y)), none, pair)
	}
	const invalid, bad, large = impl.ErrInvalid, impl.ErrRange, impl.ErrLimit
	for _, x := range brokenTables() {
		for _, y := range []impl.Table{repeated(2, 0, []int64{2}, 1), repeated(3, 0, []int64{2, 2}, 1), repeated(64, 63, []int64{64}, 700), x} {
			check(x, y, invalid, invalid, invalid)
			check(y, x, invalid, invalid, invalid)
		}
	}
	wide, long := []int64{64, 64}, []int64{64, 64, 64}
	check(repeated(64, 0, wide, 700), repeated(64, 0, long, 700), bad, bad, bad)
	check(repeated(64, 0, long, 700), repeated(64, 0, wide, 700), bad, bad, bad)
	check(repeated(64, 0, wide, 700), repeated(63, 0, wide, 700), bad, bad, large)
	check(repeated(2, 0, wide, 1), repeated(3, 0, wide, 1), bad, bad, large)
	check(repeated(64, 0, wide, 700), repeated(64, 1, wide, 700), bad, large, large)
	check(repeated(2, 0, wide, 1), repeated(2, 1, wide, 1), bad, large, large)
	check(repeated(2, 0, wide, 700), repeated(2, 0, wide, 700), large, large, large)
	check(repeated(2, 0, []int64{1}, 700), repeated(2, 0, []int64{1}, 2), large, large, large)
}

// twiceFirst returns a perfect table in which the secret 0 occurs twice as often as before.
func twiceFirst(x impl.Table) impl.Table {
	for _, r := range x.Rows {
		if r.Secret == 0 {
			x.Rows = append(slices.Clone(x.Rows), r)
		}
	}
	return inOrder(x)
}

// TestPromise13PerfectCrossed has perfect tables, of which those that are joined may have secrets that occur more often than others.
func TestPromise13PerfectCrossed(t *testing.T) {
	perfect, made := perfectTables(), 0
	for i, first := range perfect {
		for k, second := range perfect {
			x, y := first.Table, second.Table
			if x.Secrets != y.Secrets || holdersOf(x) != holdersOf(y) || (i+k)%5 != 0 {
				continue
			}
			what := tableText(x) + "and " + tableText(y)
			either := newRule(holdersOf(x), func(mask int) bool { return first.rule[mask] || second.rule[mask] })
			both := newRule(holdersOf(x), func(mask int) bool { return first.rule[mask] && second.rule[mask] })
			if sum, code := impl.SumTables(x, y); code == impl.OK {
				made++
				checkPerfect(t, "the sum of "+what, sum, both)
			}
			for _, other := range []impl.Table{x, twiceFirst(x)} {
				if join, code := impl.JoinTables(other, y); code == impl.OK {
					made++
					checkPerfect(t, "the joined "+what, join, either)
				}
			}
			if pair, code := impl.PairTables(x, y); code == impl.OK {
				made++
				expect(t, "the pair of "+what, show(impl.TableFamily(pair)), both.family(), impl.OK)
				leaky := both.lists(func(mask int) bool { return first.rule[mask] != second.rule[mask] })
				expect(t, "who knows one secret of "+what, show(impl.LeakyGroups(pair)), leaky, impl.OK)
				expect(t, "whether "+what+" is perfect", show(impl.IsPerfect(pair)), len(leaky) == 0, impl.OK)
			}
		}
	}
	if made < 1000 {
		t.Errorf("%d tables are too few", made)
	}
}

// checkColumns compares a table in which holders are left out, fixed and renamed with the definition.
func checkColumns(t *testing.T, x impl.Table, orders [][]int64) {
	t.Helper()
	text, none := tableText(x), impl.Table{}
	for _, order := range orders {
		renamed, code := impl.RenameColumns(x, order)
		checkMade(t, "RenameColumns "+show(order)+" of "+text, renamed, code, columnsIn(x, order))
	}
	for h := range holdersOf(x) {
		dropped, code := impl.DropColumn(x, int64(h))
		if holdersOf(x) == 1 {
			expect(t, "DropColumn of "+text, show(dropped, code), none, impl.ErrRange)
		} else {
			checkMade(t, "DropColumn "+show(h)+" of "+text, dropped, code, withoutColumn(x, h))
		}
		for value := int64(-1); value <= x.Sizes[h]; value++ {
			what := "FixColumn " + show(h, value) + " of " + text
			fixed, code := impl.FixColumn(x, int64(h), value)
			if rows := rowsWith(x, h, value); len(rows.Rows) == 0 || holdersOf(x) == 1 {
				expect(t, what, show(fixed, code), none, impl.ErrRange)
			} else {
				checkMade(t, what, fixed, code, withoutColumn(rows, h))
			}
		}
	}
}

// ordersOf returns all orders of a few holders, and some of more.
func ordersOf(draw func(int64) int64, holders int) [][]int64 {
	if holders <= 3 {
		return permutations(holders)
	}
	var orders [][]int64
	for range 4 {
		order := countTo(int64(holders))
		for i := range order {
			k := i + int(draw(int64(holders-i)))
			order[i], order[k] = order[k], order[i]
		}
		orders = append(orders, order)
	}
	return orders
}

func TestPromise13Columns(t *testing.T) {
	draw := drawer(1310)
	everyTable(func(x impl.Table) { checkColumns(t, x, ordersOf(draw, holdersOf(x))) })
	x := table("table 3 2 3 4\nrow 0 : 0 1 2\nrow 0 : 0 2 1\nrow 0 : 1 0 3\nrow 2 : 0 0 0\n")
	expect(t, "shares in another order", show(impl.RenameColumns(x, []int64{2, 0, 1})), table("table 3 4 2 3\nrow 0 : 1 0 2\nrow 0 : 2 0 1\nrow 0 : 3 1 0\nrow 2 : 0 0 0\n"), impl.OK)
	expect(t, "rows in another order", show(impl.DropColumn(x, 1)), table("table 3 2 4\nrow 0 : 0 1\nrow 0 : 0 2\nrow 0 : 1 3\nrow 2 : 0 0\n"), impl.OK)
	expect(t, "the rows with a share", show(impl.FixColumn(x, 0, 0)), table("table 3 3 4\nrow 0 : 1 2\nrow 0 : 2 1\nrow 2 : 0 0\n"), impl.OK)
	expect(t, "one row", show(impl.FixColumn(x, 2, 3)), table("table 3 2 3\nrow 0 : 1 0\n"), impl.OK)
}

// TestPromise13PerfectColumns leaves out, fixes and renames each holder of perfect tables.
func TestPromise13PerfectColumns(t *testing.T) {
	draw := drawer(1320)
	for i, p := range perfectTables() {
		x, r, holders := p.Table, p.rule, holdersOf(p.Table)
		text := tableText(x)
		for _, order := range ordersOf(draw, holders)[:1] {
			renamed, code := impl.RenameColumns(x, order)
			expect(t, "RenameColumns", show(code), impl.OK)
			checkPerfect(t, "RenameColumns of "+text, renamed, newRule(holders, func(mask int) bool {
				old := 0
				for _, h := range members(mask) {
					old |= 1 << order[h]
				}
				return r[old]
			}))
			f, _ := impl.RenameHolders(r.family(), order)
			expect(t, "the family of RenameColumns", show(impl.TableFamily(renamed)), f, impl.OK)
		}
		for h := i % 2; h < holders && holders > 1; h += 2 {
			dropped, code := impl.DropColumn(x, int64(h))
			expect(t, "DropColumn", show(code), impl.OK)
			checkPerfect(t, "DropColumn of "+text, dropped, newRule(holders-1, func(mask int) bool { return r[gap(mask, h)] }))
			f, _ := impl.WithoutHolder(r.family(), int64(h))
			expect(t, "the family of DropColumn", show(impl.TableFamily(dropped)), f, impl.OK)
			for value := range x.Sizes[h] {
				fixed, code := impl.FixColumn(x, int64(h), value)
				if code == impl.OK && value%3 == 0 {
					checkPerfect(t, "FixColumn of "+text, fixed, newRule(holders-1, func(mask int) bool { return r[gap(mask, h)|1<<h] }))
				}
			}
		}
	}
}

func TestPromise13ColumnErrors(t *testing.T) {
	none := impl.Table{}
	for _, x := range brokenTables() {
		for _, n := range []int64{-1, 0, 1, 7, math.MaxInt64} {
			expect(t, "DropColumn", show(impl.DropColumn(x, n)), none, impl.ErrInvalid)
			expect(t, "FixColumn", show(impl.FixColumn(x, n, n)), none, impl.ErrInvalid)
			expect(t, "FixColumn", show(impl.FixColumn(x, n, 0)), none, impl.ErrInvalid)
			expect(t, "RenameColumns", show(impl.RenameColumns(x, countTo(max(min(n, 8), 0)))), none, impl.ErrInvalid)
		}
	}
	for holders := int64(1); holders <= 7; holders++ {
		x := tableOf(2, repeat(int64(64), int(holders)), repeat(rowOf(1, repeat(int64(63), int(holders))...), 700)...)
		for _, h := range []int64{math.MinInt64, -1, holders, holders + 1, 7, 64, 1 << 32, math.MaxInt64} {
			expect(t, "DropColumn", show(impl.DropColumn(x, h)), none, impl.ErrRange)
			expect(t, "FixColumn", show(impl.FixColumn(x, h, 63)), none, impl.ErrRange)
		}
		for _, value := range []int64{math.MinInt64, -193, -1, 0, 62, 64, 65, 319, 1<<32 + 63, math.MaxInt64} {
			expect(t, "FixColumn", show(impl.FixColumn(x, holders-1, value)), none, impl.ErrRange)
		}
		if holders > 1 {
			wanted := tableOf(2, repeat(int64(64), int(holders-1)), repeat(rowOf(1, repeat(int64(63), int(holders-1))...), 700)...)
			expect(t, "700 rows with a share", show(impl.FixColumn(x, holders-1, 63)), wanted, impl.OK)
			expect(t, "700 rows", show(impl.DropColumn(x, holders-1)), wanted, impl.OK)
		}
		expect(t, "the same order", show(impl.RenameColumns(x, countTo(holders))), x, impl.OK)
		for _, order := range append(brokenGroups(holders), nil, countTo(holders-1), countTo(holders + 1)[1:], repeat(int64(0), int(holders+1)), countTo(7+holders)) {
			expect(t, "RenameColumns by "+show(order), show(impl.RenameColumns(x, order)), none, impl.ErrRange)
		}
		if holders > 1 {
			expect(t, "one holder twice", show(impl.RenameColumns(x, repeat(int64(1), int(holders)))), none, impl.ErrRange)
			expect(t, "one holder twice", show(impl.RenameColumns(x, append(countTo(holders-1), 0))), none, impl.ErrRange)
		}
	}
	only := table("table 2 2\nrow 0 : 0\nrow 1 : 1\n")
	expect(t, "the only holder", show(impl.DropColumn(only, 0)), none, impl.ErrRange)
	expect(t, "the only holder", show(impl.FixColumn(only, 0, 1)), none, impl.ErrRange)
}
