package tests

import (
	"math"
	"slices"
	"strings"
	"testing"

	"loop.example/g01117/impl"
)

// TestPromise12Example reads the table of the curves modulo 3 of the degree 1, and asks who opens it.
func TestPromise12Example(t *testing.T) {
	x, code := impl.CurveTable(3, 1, []int64{1, 2})
	text := "table 3 3 3\nrow 0 : 0 0\nrow 0 : 1 2\nrow 0 : 2 1\nrow 1 : 0 2\nrow 1 : 1 1\nrow 1 : 2 0\nrow 2 : 0 1\nrow 2 : 1 0\nrow 2 : 2 2\n"
	expect(t, "CurveTable", show(len(x.Rows), impl.TableText(x), code), 9, text, impl.OK)
	expect(t, "ReadTable", show(impl.ReadTable(text)), x, impl.OK)
	expect(t, "IsPerfect", show(impl.IsPerfect(x)), true, impl.OK)
	for h := range int64(2) {
		expect(t, "GuessChance of a holder", show(impl.GuessChance(x, []int64{h})), 1, 3, impl.OK)
		expect(t, "TableHides", show(impl.TableHides(x, []int64{h})), true, impl.OK)
	}
	expect(t, "GuessChance of both", show(impl.GuessChance(x, []int64{0, 1})), 1, 1, impl.OK)
	f, code := impl.TableFamily(x)
	expect(t, "TableFamily", show(impl.FamilyText(f), code), "family 2\nAB\n", impl.OK)
	expect(t, "the limits", show(impl.MaxLines, impl.MaxValues, impl.MaxTableText), 700, 64, 40000)
}

func TestPromise12ValidTables(t *testing.T) {
	everyTable(func(x impl.Table) {
		expect(t, "ValidTable of "+tableText(x), show(isTable(x), impl.ValidTable(x)), true, true)
	})
	for _, x := range brokenTables() {
		expect(t, "a broken table "+tableText(x), show(isTable(x), impl.ValidTable(x), impl.TableText(x)), false, false, "")
	}
	for _, x := range unorderedTables() {
		expect(t, "the same rows in order", show(impl.ValidTable(inOrder(x))), true)
	}
}

// TestPromise12Limits has as many rows, secrets, holders and shares as there may be, and one more.
func TestPromise12Limits(t *testing.T) {
	for secrets := int64(-1); secrets <= 67; secrets++ {
		x := tableOf(secrets, []int64{2}, rowOf(0, 1))
		expect(t, "secrets", show(secrets, impl.ValidTable(x)), secrets, secrets >= 1 && secrets <= 64)
		for secret := int64(-1); secret <= 67; secret++ {
			x.Rows = []impl.Row{rowOf(secret, 1)}
			expect(t, "a secret", show(secrets, secret, impl.ValidTable(x)), secrets, secret, isTable(x))
		}
		for share := int64(-1); share <= 67; share++ {
			x := tableOf(3, []int64{1, secrets}, rowOf(0, 0, 0), rowOf(2, 0, share))
			expect(t, "a share", show(secrets, share, impl.ValidTable(x)), secrets, share, isTable(x))
		}
	}
	for holders := range 10 {
		x := tableOf(1, repeat(int64(64), holders), rowOf(0, repeat(int64(63), holders)...))
		expect(t, "holders", show(holders, impl.ValidTable(x)), holders, holders >= 1 && holders <= 7)
	}
	for rows := range 710 {
		x := tableOf(64, []int64{64, 64}, repeat(rowOf(63, 63, 63), rows)...)
		valid := rows >= 1 && rows <= 700
		expect(t, "rows", show(rows, impl.ValidTable(x), impl.TableText(x) != ""), rows, valid, valid)
		if rows > 690 || rows < 3 {
			_, read := impl.ReadTable(tableText(x))
			_, gathered := impl.GatherTable(x.Secrets, x.Sizes, x.Rows)
			expect(t, "codes for so many rows", show(rows, read == impl.OK, gathered == impl.OK), rows, valid, valid)
		}
	}
}

func TestPromise12SameTable(t *testing.T) {
	tables := slices.Concat(brokenTables(), tablesWith(2, 2, 2), tablesWith(1, 2, 2), tablesWith(2, 2, 1))
	for i, x := range tables {
		for k, other := range tables {
			expect(t, "SameTable", show(impl.SameTable(x, other)), i == k || show(x) == show(other))
		}
	}
	one := func() impl.Table { return table("table 3 3 2\nrow 0 : 1 0\nrow 2 : 2 1\nrow 2 : 2 1\n") }
	changes := []func(x *impl.Table){
		func(x *impl.Table) { x.Secrets = 4 }, func(x *impl.Table) { x.Sizes[0] = 4 }, func(x *impl.Table) { x.Sizes[1] = 3 }, func(x *impl.Table) { x.Sizes = x.Sizes[:1] }, func(x *impl.Table) { x.Sizes = append(x.Sizes, 1) },
		func(x *impl.Table) { x.Rows = x.Rows[:2] }, func(x *impl.Table) { x.Rows = append(x.Rows, rowOf(2, 2, 1)) }, func(x *impl.Table) { x.Rows[0].Secret = 1 }, func(x *impl.Table) { x.Rows[2].Secret = 1 },
		func(x *impl.Table) { x.Rows[0].Shares[0] = 0 }, func(x *impl.Table) { x.Rows[2].Shares[1] = 0 }, func(x *impl.Table) { x.Rows[1].Shares = x.Rows[1].Shares[:1] }, func(x *impl.Table) { x.Rows[2].Shares = append(x.Rows[2].Shares, 0) },
		func(x *impl.Table) { x.Rows[0], x.Rows[1] = x.Rows[1], x.Rows[0] },
	}
	expect(t, "a copy", show(impl.SameTable(one(), one())), true)
	for i, change := range changes {
		other := one()
		change(&other)
		expect(t, "changed", show(i, impl.SameTable(one(), other), impl.SameTable(other, one())), i, false, false)
	}
}

func TestPromise12TextsOfTables(t *testing.T) {
	everyTable(func(x impl.Table) {
		text := tableText(x)
		expect(t, "TableText", show(impl.TableText(x)), text)
		expect(t, "ReadTable of "+text, show(impl.ReadTable(text)), x, impl.OK)
	})
	for _, x := range brokenTables() {
		if text := tableText(x); len(text) <= 40000 {
			expect(t, "ReadTable of "+text, show(impl.ReadTable(text)), impl.Table{}, impl.ErrSyntax)
		} else {
			expect(t, "ReadTable of a long text", show(impl.ReadTable(text)), impl.Table{}, impl.ErrRange)
		}
	}
}

// TestPromise12NearlyTexts changes, adds and removes each byte of texts.
func TestPromise12NearlyTexts(t *testing.T) {
	const letters = "\n\r\t ,-+:;.rowtableABH0123456789\x00\xff"
	found := 0
	for _, text := range []string{"table 1 1\nrow 0 : 0\n", "table 2 2\nrow 0 : 1\nrow 1 : 0\n", "table 3 3 2\nrow 0 : 1 0\nrow 2 : 2 1\nrow 2 : 2 1\n", "table 64 64 12\nrow 10 : 63 11\nrow 63 : 0 0\n", "table 2 1 1 1 1 1 1 1\nrow 1 : 0 0 0 0 0 0 0\n"} {
		nearly := []string{text, text + text, text + "\n", "\n" + text, strings.ToUpper(text), strings.TrimSuffix(text, "\n"), strings.ReplaceAll(text, "\n", "\r\n"), strings.ReplaceAll(text, " ", "  "), strings.ReplaceAll(text, "\n", " \n"), strings.ReplaceAll(text, " :", ":"), strings.ReplaceAll(text, ": ", ":"), strings.ReplaceAll(text, " : ", " "), strings.ReplaceAll(text, ":", "::")}
		for _, near := range append(nearly, nearlyTexts(text, letters)...) {
			if x, ok := tableWithText(near); ok {
				found++
				expect(t, "ReadTable of "+near, show(impl.ReadTable(near)), x, impl.OK)
			} else {
				expect(t, "ReadTable of "+near, show(impl.ReadTable(near)), impl.Table{}, impl.ErrSyntax)
			}
		}
	}
	if found < 200 {
		t.Errorf("only %d of the texts are of tables", found)
	}
}

func TestPromise12TextsThatAreNone(t *testing.T) {
	for _, text := range []string{"", "\n", " ", "table", "table\n", "table 2\n", "table 2 2", "table 2 2\n", "table 2\nrow 0 :\n", "table\nrow 0 : 0\n", "table 2 2\nrow 0 : 0", "table 2 2 \nrow 0 : 0\n", " table 2 2\nrow 0 : 0\n", "table  2 2\nrow 0 : 0\n", "table 2 2\n\nrow 0 : 0\n", "table 2 2\nrow 0 : 0\n\n", "\ntable 2 2\nrow 0 : 0\n",
		"table 2 2\nrow 0 : 0 0\n", "table 2 2\nrow 0 :\n", "table 2 2\nrow 0 : \n", "table 2 2\nrow 0\n", "table 2 2\nrow\n", "table 2 2\nrow \n", "table 2 2\nrow : 0\n", "table 2 2\nrow 0 0\n", "table 2 2\nrow 0: 0\n", "table 2 2\nrow 0 :0\n", "table 2 2\nrow 0:0\n", "table 2 2\nrow 0 : : 0\n", "table 2 2\nrow 0 ; 0\n", "table 2 2\nrow 0 -1 0\n", "table 2 2\nrow 0 0 : 0\n", "table 2 2\nrow 0 x 0\n",
		"table 2 2\nrow 2 : 0\n", "table 2 2\nrow 0 : 2\n", "table 2 2\nrow -1 : 0\n", "table 2 2\nrow 0 : -1\n", "table 2 2\nrow 00 : 0\n", "table 2 2\nrow 0 : 00\n", "table 2 2\nrow +0 : 0\n", "table 2 2\nrow 0 : +1\n", "table 2 2\nrow 0 : 0x1\n", "table 02 2\nrow 0 : 0\n", "table 2 02\nrow 0 : 0\n", "table 2 2\nrow 1 : 0\nrow 0 : 0\n", "table 2 2\nrow 0 : 1\nrow 0 : 0\n",
		"table 0 2\nrow 0 : 0\n", "table 65 2\nrow 0 : 0\n", "table 2 0\nrow 0 : 0\n", "table 2 65\nrow 0 : 0\n", "table -2 2\nrow 0 : 0\n", "table 2 1 1 1 1 1 1 1 1\nrow 0 : 0 0 0 0 0 0 0 0\n", "table x 2\nrow 0 : 0\n", "table 2 x\nrow 0 : 0\n", "table 2 2\nrow x : 0\n", "table 2 2\nrow 0 : x\n", "table 2 2\nrow a : 0\n", "table 2 2\nROW 0 : 0\n", "Table 2 2\nrow 0 : 0\n", "tables 2 2\nrow 0 : 0\n", "table 2 2\nrows 0 : 0\n",
		"table 2 2\n0 : 0\n", "table 2 2\nrow row 0 : 0\n", "2 2\nrow 0 : 0\n", "row 0 : 0\n", "scheme 2 2\nrow 0 : 0\n", "table 2 : 2\nrow 0 : 0\n", "table 2 2 : \nrow 0 : 0\n", "table 2 2\nrow 0 : 0\ntable 2 2\nrow 0 : 0\n", "table 2, 2\nrow 0 : 0\n", "table 2 2\r\nrow 0 : 0\r\n", "table\t2 2\nrow 0 : 0\n", "table 2 2\nrow\t0 : 0\n", "table 2 2\nrow 0\t: 0\n",
		"table 9223372036854775808 2\nrow 0 : 0\n", "table 18446744073709551618 2\nrow 0 : 0\n", "table 2 18446744073709551618\nrow 0 : 0\n", "table 2 2\nrow 18446744073709551616 : 0\n", "table 2 2\nrow 0 : 18446744073709551617\n", "table 2 2\nrow 0 : 256\n", "\xff", "table \u0662 2\nrow 0 : 0\n", "table 2 2\x00\nrow 0 : 0\n", "table 2 2\nrow 0 \uff1a 0\n"} {
		expect(t, "ReadTable of "+text, show(impl.ReadTable(text)), impl.Table{}, impl.ErrSyntax)
	}
}

func TestPromise12TextLimits(t *testing.T) {
	head := "table 64" + strings.Repeat(" 64", 7) + "\n"
	line := "row 63 :" + strings.Repeat(" 63", 7) + "\n"
	expect(t, "700 rows", show(impl.ReadTable(head+strings.Repeat(line, 700))), tableOf(64, repeat(int64(64), 7), repeat(rowOf(63, repeat(int64(63), 7)...), 700)...), impl.OK)
	expect(t, "701 rows", show(impl.ReadTable(head+strings.Repeat(line, 701))), impl.Table{}, impl.ErrSyntax)
	for _, begin := range []string{"", head, head + line, "table ", "table 2 2\nrow 0 : 0\n"} {
		for _, part := range []string{"x", "\n", "1", " ", ":", "\x00"} {
			expect(t, "40000 bytes", show(impl.ReadTable(begin+strings.Repeat(part, 40000-len(begin)))), impl.Table{}, impl.ErrSyntax)
			expect(t, "40001 bytes", show(impl.ReadTable(begin+strings.Repeat(part, 40001-len(begin)))), impl.Table{}, impl.ErrRange)
		}
	}
}

// mixed returns rows in an arbitrary order.
func mixed(draw func(int64) int64, rows []impl.Row) []impl.Row {
	result := slices.Clone(rows)
	for i := range result {
		k := i + int(draw(int64(len(result)-i)))
		result[i], result[k] = result[k], result[i]
	}
	return result
}

// TestPromise12Gathered gives rows in all orders if they are few, and in some orders otherwise.
func TestPromise12Gathered(t *testing.T) {
	draw := drawer(1200)
	everyTable(func(x impl.Table) {
		backwards := slices.Clone(x.Rows)
		slices.Reverse(backwards)
		orders := [][]impl.Row{x.Rows, backwards, mixed(draw, x.Rows), mixed(draw, x.Rows)}
		if len(x.Rows) == 3 {
			for _, order := range permutations(3) {
				orders = append(orders, []impl.Row{x.Rows[order[0]], x.Rows[order[1]], x.Rows[order[2]]})
			}
		}
		for _, rows := range orders {
			expect(t, "GatherTable of "+show(rows), show(impl.GatherTable(x.Secrets, x.Sizes, rows)), x, impl.OK)
		}
	})
	for _, x := range brokenTables() {
		for _, rows := range [][]impl.Row{x.Rows, mixed(draw, x.Rows)} {
			if wanted := inOrder(x); isTable(wanted) {
				expect(t, "GatherTable of rows that are out of order", show(impl.GatherTable(x.Secrets, x.Sizes, rows)), wanted, impl.OK)
			} else {
				expect(t, "GatherTable of "+show(x.Secrets, x.Sizes, rows), show(impl.GatherTable(x.Secrets, x.Sizes, rows)), impl.Table{}, impl.ErrInvalid)
			}
		}
	}
	expect(t, "nothing", show(impl.GatherTable(0, nil, nil)), impl.Table{}, impl.ErrInvalid)
	expect(t, "no rows", show(impl.GatherTable(2, []int64{2}, nil)), impl.Table{}, impl.ErrInvalid)
}

// checkViews compares what a group sees with the definition, and the best guess with whether it opens.
func checkViews(t *testing.T, x impl.Table, text string, mask int) {
	t.Helper()
	group, what := members(mask), show(members(mask))+" in "+text
	views, counts := viewsBy(x, mask)
	right, all := chanceOf(x, counts)
	expect(t, "ViewsOf "+what, show(impl.ViewsOf(x, group)), views, counts, impl.OK)
	expect(t, "TableOpens for "+what, show(impl.TableOpens(x, group)), opensAll(counts), impl.OK)
	expect(t, "TableHides from "+what, show(impl.TableHides(x, group)), hidesAll(x, counts), impl.OK)
	expect(t, "GuessChance of "+what, show(impl.GuessChance(x, group)), right, all, impl.OK)
	expect(t, "always right "+what, show(right == 1 && all == 1), opensAll(counts))
	for i, view := range views {
		if i > 3 && i+3 < len(views) {
			continue
		}
		from := secrets(counts[i])
		if len(from) > 1 {
			expect(t, "OpenView "+show(view)+what, show(impl.OpenView(x, group, view)), 0, impl.ErrState)
		} else {
			expect(t, "OpenView "+show(view)+what, show(impl.OpenView(x, group, view)), from[0], impl.OK)
		}
	}
}

func TestPromise12WhatGroupsSee(t *testing.T) {
	opening, hiding, leaking := 0, 0, 0
	everyTable(func(x impl.Table) {
		text := tableText(x)
		for mask := range 1 << holdersOf(x) {
			if len(x.Rows) < 100 || mask%5 == 0 || mask+1 == 1<<holdersOf(x) {
				checkViews(t, x, text, mask)
			}
		}
		r, leaky := ruleOfTable(x), leaksBy(x)
		expect(t, "TableFamily of "+text, show(impl.TableFamily(x)), r.family(), impl.OK)
		expect(t, "LeakyGroups of "+text, show(impl.LeakyGroups(x)), leaky, impl.OK)
		expect(t, "IsPerfect of "+text, show(impl.IsPerfect(x)), len(leaky) == 0, impl.OK)
		opens := len(r.lists(func(mask int) bool { return r[mask] }))
		opening, leaking, hiding = opening+opens, leaking+len(leaky), hiding+len(r)-opens-len(leaky)
	})
	if min(opening, hiding, leaking) < 1000 {
		t.Errorf("%d groups that open, %d that see nothing and %d that see something are too few", opening, hiding, leaking)
	}
}

// TestPromise12MoreHoldersSeeMore checks that nobody guesses worse, and opens less, together with others.
func TestPromise12MoreHoldersSeeMore(t *testing.T) {
	for _, x := range slices.Concat(smallTables()[:300], someTables()) {
		for mask := len(x.Rows) / 100; mask < 1<<holdersOf(x); mask += 1 + len(x.Rows)/100 {
			one, all, _ := impl.GuessChance(x, members(mask))
			opens, _ := impl.TableOpens(x, members(mask))
			for h := range holdersOf(x) {
				more, of, _ := impl.GuessChance(x, members(mask|1<<h))
				opensMore, _ := impl.TableOpens(x, members(mask|1<<h))
				if more*all < one*of || opens && !opensMore {
					t.Errorf("%v see more without %d in %s", members(mask), h, tableText(x))
				}
			}
		}
	}
}

// TestPromise12ViewsThatNoRowHas gives views with other numbers, also some that are no shares, and of other lengths.
func TestPromise12ViewsThatNoRowHas(t *testing.T) {
	draw := drawer(1210)
	for _, x := range append(someTables(), table("table 2 64 64\nrow 0 : 0 63\nrow 1 : 63 0\n"), table("table 1 1\nrow 0 : 0\n")) {
		for _, mask := range []int64{0, 1, draw(1 << holdersOf(x)), 1<<holdersOf(x) - 1} {
			group := members(int(mask))
			views, _ := viewsBy(x, int(mask))
			for range 2 {
				view := slices.Clone(views[draw(int64(len(views)))])
				expect(t, "a number more", show(impl.OpenView(x, group, append(slices.Clone(view), 0))), 0, impl.ErrRange)
				if len(view) == 0 {
					continue
				}
				expect(t, "a number less", show(impl.OpenView(x, group, view[1:])), 0, impl.ErrRange)
				i := draw(int64(len(view)))
				old := view[i]
				for _, n := range []int64{old + 256, old - 256, old + 1<<32, old + math.MinInt64, -1, -old - 1, 64, x.Sizes[group[i]], math.MaxInt64, math.MinInt64} {
					view[i] = n
					expect(t, "no share in "+show(view), show(impl.OpenView(x, group, view)), 0, impl.ErrNotFound)
				}
				for view[i] = range x.Sizes[group[i]] {
					if _, found := slices.BinarySearchFunc(views, view, slices.Compare); !found {
						expect(t, "the view "+show(view), show(impl.OpenView(x, group, view)), 0, impl.ErrNotFound)
					}
				}
			}
		}
	}
}

// TestPromise12Cases has rows that occur several times, secrets that never occur, and holders with one share.
func TestPromise12Cases(t *testing.T) {
	check := func(text string, group []int64, opens, hides bool, right, all int64) {
		t.Helper()
		x := table(text)
		expect(t, "TableOpens", show(impl.TableOpens(x, group)), opens, impl.OK)
		expect(t, "TableHides", show(impl.TableHides(x, group)), hides, impl.OK)
		expect(t, "GuessChance", show(impl.GuessChance(x, group)), right, all, impl.OK)
	}
	check("table 1 1\nrow 0 : 0\n", nil, true, true, 1, 1)
	check("table 1 1\nrow 0 : 0\n", []int64{0}, true, true, 1, 1)
	check("table 1 3\nrow 0 : 0\nrow 0 : 2\n", []int64{0}, true, true, 1, 1)
	check("table 5 3\nrow 3 : 0\nrow 3 : 2\n", nil, true, true, 1, 1)
	check("table 5 3\nrow 3 : 0\nrow 4 : 2\n", nil, false, true, 1, 2)
	check("table 5 3\nrow 3 : 0\nrow 4 : 2\n", []int64{0}, true, false, 1, 1)
	check("table 2 1\nrow 0 : 0\nrow 0 : 0\nrow 1 : 0\n", []int64{0}, false, true, 2, 3)
	check("table 2 2\nrow 0 : 0\nrow 0 : 0\nrow 0 : 1\nrow 0 : 1\nrow 1 : 0\nrow 1 : 1\n", []int64{0}, false, true, 2, 3)
	check("table 2 2\nrow 0 : 0\nrow 0 : 0\nrow 0 : 1\nrow 1 : 0\nrow 1 : 1\nrow 1 : 1\n", []int64{0}, false, false, 2, 3)
	check("table 2 2\nrow 0 : 0\nrow 0 : 0\nrow 0 : 0\nrow 1 : 0\nrow 1 : 1\nrow 1 : 1\n", []int64{0}, false, false, 5, 6)
	check("table 3 2\nrow 0 : 0\nrow 1 : 0\nrow 1 : 1\nrow 2 : 1\n", []int64{0}, false, false, 1, 2)
	check("table 2 2 1 2\nrow 0 : 0 0 0\nrow 0 : 1 0 1\nrow 1 : 0 0 1\nrow 1 : 1 0 0\n", []int64{0, 1}, false, true, 1, 2)
	check("table 2 2 1 2\nrow 0 : 0 0 0\nrow 0 : 1 0 1\nrow 1 : 0 0 1\nrow 1 : 1 0 0\n", []int64{0, 2}, true, false, 1, 1)
	leaky := table("table 2 2 2\nrow 0 : 0 0\nrow 0 : 0 0\nrow 0 : 1 0\nrow 1 : 0 1\nrow 1 : 1 1\nrow 1 : 1 1\n")
	expect(t, "who leaks", show(impl.LeakyGroups(leaky)), [][]int64{{0}}, impl.OK)
	expect(t, "who opens", show(impl.TableFamily(leaky)), family(2, []int64{1}), impl.OK)
	expect(t, "two views in order", show(impl.ViewsOf(leaky, []int64{0})), [][]int64{{0}, {1}}, [][]int64{{2, 1}, {1, 2}}, impl.OK)
	all := table("table 2 2 2 2\nrow 0 : 0 0 0\nrow 0 : 0 0 1\nrow 0 : 0 1 0\nrow 1 : 0 0 0\nrow 1 : 1 0 1\nrow 1 : 1 1 0\n")
	expect(t, "leaks in order", show(impl.LeakyGroups(all)), [][]int64{{0}, {0, 1}, {0, 1, 2}, {0, 2}}, impl.OK)
	expect(t, "nobody opens", show(impl.TableFamily(all)), nobody(3), impl.OK)
	one := table("table 4 2 2\nrow 2 : 0 0\nrow 2 : 1 0\n")
	expect(t, "everybody opens", show(impl.TableFamily(one)), everybody(2), impl.OK)
	expect(t, "nobody sees anything", show(impl.IsPerfect(one)), true, impl.OK)
	expect(t, "the only secret", show(impl.OpenView(one, nil, nil)), 2, impl.OK)
}

// TestPromise12AllViews has 700 views, of which some need two digits.
func TestPromise12AllViews(t *testing.T) {
	x := tableOf(2, []int64{64, 11})
	var views, counts [][]int64
	for share := range int64(64) {
		for other := range int64(11) {
			if len(views) == 700 {
				break
			}
			x.Rows = append(x.Rows, rowOf(other%2, share, other))
			views, counts = append(views, []int64{share, other}), append(counts, unit(2, other%2))
		}
	}
	x = inOrder(x)
	expect(t, "views in order", show(impl.ViewsOf(x, []int64{0, 1})), views, counts, impl.OK)
	for _, r := range x.Rows {
		expect(t, "OpenView", show(impl.OpenView(x, []int64{0, 1}, r.Shares)), r.Secret, impl.OK)
	}
	expect(t, "all guess right", show(impl.GuessChance(x, []int64{1})), 1, 1, impl.OK)
	expect(t, "who opens", show(impl.TableFamily(x)), family(2, []int64{1}), impl.OK)
}

// TestPromise12Errors gives tables that are not valid, and groups that are none, with what is good or bad behind them.
func TestPromise12Errors(t *testing.T) {
	check := func(x impl.Table, group, view []int64, code int64) {
		t.Helper()
		what := show(group) + " of " + tableText(x)
		expect(t, "ViewsOf "+what, show(impl.ViewsOf(x, group)), [][]int64{}, [][]int64{}, code)
		expect(t, "TableOpens "+what, show(impl.TableOpens(x, group)), false, code)
		expect(t, "TableHides "+what, show(impl.TableHides(x, group)), false, code)
		expect(t, "GuessChance "+what, show(impl.GuessChance(x, group)), 0, 0, code)
		expect(t, "OpenView "+what, show(impl.OpenView(x, group, view)), 0, code)
	}
	for _, x := range brokenTables() {
		for _, group := range [][]int64{nil, {0}, {0, 1}, {7}, {1, 0}} {
			check(x, group, make([]int64, len(group)), impl.ErrInvalid)
			check(x, group, []int64{0, -1, 5}, impl.ErrInvalid)
		}
		expect(t, "TableFamily", show(impl.TableFamily(x)), impl.Family{}, impl.ErrInvalid)
		expect(t, "LeakyGroups", show(impl.LeakyGroups(x)), [][]int64{}, impl.ErrInvalid)
		expect(t, "IsPerfect", show(impl.IsPerfect(x)), false, impl.ErrInvalid)
	}
	for holders := int64(1); holders <= 7; holders++ {
		x := someTable(drawer(1220), 3, holders, 20)
		for _, group := range brokenGroups(holders) {
			check(x, group, nil, impl.ErrRange)
			check(x, group, make([]int64, len(group)), impl.ErrRange)
		}
	}
	x := table("table 2 2 2\nrow 0 : 0 0\nrow 1 : 0 0\nrow 1 : 1 0\n")
	expect(t, "too many numbers, one of which is no share", show(impl.OpenView(x, []int64{0}, []int64{5, 0})), 0, impl.ErrRange)
	expect(t, "no numbers, and different secrets", show(impl.OpenView(x, []int64{0}, nil)), 0, impl.ErrRange)
	expect(t, "no row", show(impl.OpenView(x, []int64{0, 1}, []int64{0, 1})), 0, impl.ErrNotFound)
	expect(t, "different secrets", show(impl.OpenView(x, []int64{0, 1}, []int64{0, 0})), 0, impl.ErrState)
	expect(t, "different secrets", show(impl.OpenView(x, nil, nil)), 0, impl.ErrState)
	expect(t, "the secret", show(impl.OpenView(x, []int64{0}, []int64{1})), 1, impl.OK)
}
