package tests

import (
	"math"
	"reflect"
	"slices"
	"strings"
	"testing"

	"loop.example/g01117/impl"
)

// chapter6 lists the functions of chapter 6 by their names.
func chapter6() map[string]any {
	return map[string]any{
		"ValidTable": impl.ValidTable, "SameTable": impl.SameTable, "TableText": impl.TableText, "ReadTable": impl.ReadTable, "GatherTable": impl.GatherTable,
		"ViewsOf": impl.ViewsOf, "TableOpens": impl.TableOpens, "TableHides": impl.TableHides, "GuessChance": impl.GuessChance, "OpenView": impl.OpenView,
		"TableFamily": impl.TableFamily, "LeakyGroups": impl.LeakyGroups, "IsPerfect": impl.IsPerfect, "JoinTables": impl.JoinTables, "SumTables": impl.SumTables,
		"PairTables": impl.PairTables, "DropColumn": impl.DropColumn, "FixColumn": impl.FixColumn, "RenameColumns": impl.RenameColumns,
		"CurveTable": impl.CurveTable, "FamilyTable": impl.FamilyTable, "SchemeTable": impl.SchemeTable,
	}
}

// trialTables are tables, of which the broken ones have few rows.
func trialTables() []impl.Table {
	tables := slices.DeleteFunc(brokenTables(), func(t impl.Table) bool { return len(t.Rows) > 100 })
	draw := drawer(6)
	for _, text := range []string{"table 1 1\nrow 0 : 0\n", "table 2 2\nrow 0 : 0\nrow 1 : 1\n", "table 2 1\nrow 0 : 0\nrow 1 : 0\n", "table 2 2\nrow 0 : 0\nrow 1 : 0\nrow 1 : 1\n", "table 64 64\nrow 63 : 63\n",
		"table 2 2 1\nrow 0 : 0 0\nrow 0 : 0 0\nrow 1 : 1 0\n", "table 2 2 2 2\nrow 0 : 0 0 0\nrow 0 : 1 1 0\nrow 1 : 0 1 1\nrow 1 : 1 0 1\n", "table 3 7 8 7\nrow 0 : 6 7 6\nrow 2 : 1 7 6\n", "table 2 1 2 1 2 1 2 1\nrow 0 : 0 1 0 1 0 1 0\nrow 1 : 0 0 0 0 0 0 0\n"} {
		tables = append(tables, table(text))
	}
	return append(tables, curveTableBy(3, 1, []int64{1, 2}), someTable(draw, 2, 7, 20), someTable(draw, 64, 3, 30))
}

func TestPromise1AllArgumentsOfTables(t *testing.T) {
	tryAll(t, chapter6(), "OpenView", "FixColumn", "GatherTable")
	for _, text := range []string{"table 1 1\nrow 0 : 0\n", "table 3 2 2\nrow 0 : 0 0\nrow 2 : 1 1\n", "table 3 2 2\nrow 2 : 0 0\nrow 0 : 1 1\n", "table 1 1\nrow 0\n", "table 1 1\nrow\n", "table 1 1\nrow \n", "table 1 1\n\n", "table 1\n", "table \n", "table\nrow 0 :\n",
		"table 1 1\nrow 0 0 0\n", "table 1 1\nrow : : :\n", "table 9223372036854775808 1\nrow 0 : 0\n", strings.Repeat("table ", 1000), "table 1 1\n" + strings.Repeat("row 0 : 0\n", 701), strings.Repeat("\n", impl.MaxTableText), strings.Repeat("\n", impl.MaxTableText+1)} {
		tryCall(t, "ReadTable", reflect.ValueOf(impl.ReadTable), []reflect.Value{reflect.ValueOf(text)})
	}
}

// TestPromise1TablesThatFit gives groups, views, shares and tables that fit together, so that they are not just refused.
func TestPromise1TablesThatFit(t *testing.T) {
	try := trier(t, chapter6())
	draw := drawer(7)
	for i, x := range append(trialTables(), smallTables()[:200]...) {
		if !isTable(x) {
			continue
		}
		for _, mask := range []int{0, 1, 1<<holdersOf(x) - 1} {
			group := members(mask)
			try("ViewsOf", x, group)
			try("TableOpens", x, group)
			try("TableHides", x, group)
			try("GuessChance", x, group)
			try("OpenView", x, group, seenIn(x.Rows[draw(int64(len(x.Rows)))], mask))
			try("OpenView", x, group, repeat(int64(1), len(group)))
		}
		shuffled := slices.Clone(x.Rows)
		slices.Reverse(shuffled)
		try("GatherTable", x.Secrets, x.Sizes, shuffled)
		try("RenameColumns", x, permutations(min(holdersOf(x), 3))[0])
		for h := range int64(holdersOf(x)) {
			try("DropColumn", x, h)
			try("FixColumn", x, h, x.Rows[0].Shares[h])
		}
		try("JoinTables", x, x)
		try("SumTables", x, x)
		try("PairTables", x, x)
		if i%5 == 0 {
			try("LeakyGroups", x)
		}
	}
	for _, p := range allPrimes() {
		for _, points := range [][]int64{{1}, {p - 1}, countTo(min(p, 8))[1:]} {
			try("CurveTable", p, int64(0), points)
			try("CurveTable", p, int64(1), points)
			try("CurveTable", p, int64(6), points)
		}
	}
	for i, s := range smallSchemes() {
		if i%50 == 0 {
			try("SchemeTable", s)
		}
	}
	for secrets := range int64(6) {
		for _, f := range []impl.Family{family(1, []int64{0}), family(3, []int64{0, 1}, []int64{2}), family(4, []int64{0, 1}, []int64{1, 2}, []int64{2, 3}), ruleOf(family(7, []int64{0, 1, 2, 3, 4, 5})).family()} {
			try("FamilyTable", f, secrets)
		}
	}
}

// TestPromise1LargestTables has as many rows, holders and secrets as there may be.
func TestPromise1LargestTables(t *testing.T) {
	x := someTable(drawer(8), 64, 7, 700)
	for name, f := range chapter6() {
		function := reflect.ValueOf(f)
		var args []reflect.Value
		for i := range function.Type().NumIn() {
			switch function.Type().In(i) {
			case reflect.TypeFor[impl.Table]():
				args = append(args, reflect.ValueOf(x))
			case reflect.TypeFor[[]int64]():
				args = append(args, reflect.ValueOf([]int64{0, 2, 6}))
			case reflect.TypeFor[int64]():
				args = append(args, reflect.ValueOf(x.Rows[0].Shares[0]))
			case reflect.TypeFor[[]impl.Row]():
				args = append(args, reflect.ValueOf(x.Rows))
			case reflect.TypeFor[string]():
				args = append(args, reflect.ValueOf(tableText(x)))
			default:
				args = append(args, reflect.Zero(function.Type().In(i)))
			}
		}
		tryCall(t, name, function, args)
	}
	order := []reflect.Value{reflect.ValueOf(x), reflect.ValueOf([]int64{6, 5, 4, 3, 2, 1, 0})}
	tryCall(t, "RenameColumns", reflect.ValueOf(impl.RenameColumns), order)
}

// TestPromise1TablesShareNothing gives the same memory as sizes and shares, as all rows and as both tables, and writes into all results.
func TestPromise1TablesShareNothing(t *testing.T) {
	list := []int64{1, 2}
	before := "table 3 3 3\nrow 1 : 1 2\nrow 1 : 1 2\n"
	x := tableOf(3, []int64{3, 3}, rowOf(1, list...), rowOf(1, list...))
	x.Rows[1].Shares = x.Rows[0].Shares
	gathered, one := impl.GatherTable(3, []int64{3, 3}, x.Rows)
	same, two := impl.GatherTable(3, []int64{3, 3}, []impl.Row{{Secret: 2, Shares: list}, {Secret: 0, Shares: list}})
	joined, three := impl.JoinTables(x, x)
	summed, four := impl.SumTables(x, x)
	paired, five := impl.PairTables(x, x)
	dropped, six := impl.DropColumn(x, 0)
	fixed, seven := impl.FixColumn(x, 0, 1)
	renamed, eight := impl.RenameColumns(x, []int64{1, 0})
	read, nine := impl.ReadTable(before)
	expect(t, "codes", show(one, two, three, four, five, six, seven, eight, nine), 0, 0, 0, 0, 0, 0, 0, 0, 0)
	fours := strings.Repeat("row 1 : 4 8\n", 4)
	texts := []string{before, "table 3 3 3\nrow 0 : 1 2\nrow 2 : 1 2\n", "table 3 9 9\n" + fours, "table 3 9 9\n" + strings.ReplaceAll(fours, "row 1", "row 2"), "table 9 9 9\n" + strings.ReplaceAll(fours, "row 1", "row 4"),
		"table 3 3\nrow 1 : 2\nrow 1 : 2\n", "table 3 3\nrow 1 : 2\nrow 1 : 2\n", "table 3 3 3\nrow 1 : 2 1\nrow 1 : 2 1\n", before}
	for i, result := range []impl.Table{gathered, same, joined, summed, paired, dropped, fixed, renamed, read} {
		expect(t, "a result", show(tableText(result)), texts[i])
		if overlap(spansOf(reflect.ValueOf(result)), append(spansOf(reflect.ValueOf(x)), spansOf(reflect.ValueOf(list))...)) {
			t.Errorf("%s shares memory with its argument or itself", texts[i])
		}
		_ = append(result.Sizes, 9)
		clear(result.Sizes)
		for k, r := range result.Rows {
			_ = append(r.Shares, 99)
			clear(r.Shares)
			if k+1 < len(result.Rows) {
				expect(t, "the next row", show(slices.Max(result.Rows[k+1].Shares) > 0, slices.Max(result.Rows[k+1].Shares) < 9), true, true)
			}
		}
		_ = append(result.Rows, impl.Row{})
		clear(result.Rows)
	}
	views, counts, code := impl.ViewsOf(x, []int64{0, 1})
	expect(t, "ViewsOf", show(views, counts, code), [][]int64{{1, 2}}, [][]int64{{0, 2, 0}}, 0)
	clear(views[0])
	clear(counts[0])
	expect(t, "the argument", show(tableText(x), list), before, []int64{1, 2})
}

func TestPromise1NilIsEmptyInTables(t *testing.T) {
	var tables [][2]impl.Table
	for _, secrets := range []int64{0, 1, 2} {
		tables = append(tables, [2]impl.Table{{Secrets: secrets}, {Secrets: secrets, Sizes: []int64{}, Rows: []impl.Row{}}},
			[2]impl.Table{{Secrets: secrets, Sizes: []int64{2}}, {Secrets: secrets, Sizes: []int64{2}, Rows: []impl.Row{}}},
			[2]impl.Table{{Secrets: secrets, Rows: []impl.Row{{}}}, {Secrets: secrets, Sizes: []int64{}, Rows: []impl.Row{{Shares: []int64{}}}}})
	}
	for _, pair := range tables {
		expect(t, "SameTable", show(impl.SameTable(pair[0], pair[1]), impl.SameTable(pair[1], pair[0])), true, true)
		for name, f := range chapter6() {
			function := reflect.ValueOf(f)
			kind := function.Type()
			var calls [2][]reflect.Value
			for i := range kind.NumIn() {
				for k := range calls {
					switch {
					case kind.In(i) == reflect.TypeFor[impl.Table]():
						calls[k] = append(calls[k], reflect.ValueOf(pair[k]))
					case kind.In(i).Kind() == reflect.Slice && k == 1:
						calls[k] = append(calls[k], reflect.MakeSlice(kind.In(i), 0, 0))
					default:
						calls[k] = append(calls[k], reflect.Zero(kind.In(i)))
					}
				}
			}
			a, b := function.Call(calls[0]), function.Call(calls[1])
			for k := range a {
				expect(t, name, show(a[k].Interface()), b[k].Interface())
			}
		}
	}
	x := table("table 2 2 2\nrow 0 : 0 0\nrow 0 : 1 1\n")
	for _, none := range [][]int64{nil, {}} {
		expect(t, "what the empty group sees", show(impl.ViewsOf(x, none)), [][]int64{{}}, [][]int64{{2, 0}}, impl.OK)
		expect(t, "what the empty view tells", show(impl.OpenView(x, none, nil)), 0, impl.OK)
		expect(t, "what the empty view tells", show(impl.OpenView(x, nil, none)), 0, impl.OK)
	}
}

func TestPromise1HugeTables(t *testing.T) {
	const many = 1_000_000
	none, list, long := impl.Table{}, repeat(int64(1), many), rowOf(0, make([]int64, many)...)
	good := table("table 2 2 2\nrow 0 : 0 0\nrow 1 : 1 1\n")
	for _, x := range []impl.Table{
		tableOf(1, list, long), tableOf(1, []int64{1}, long), tableOf(1, []int64{1}, repeat(rowOf(0, 0), many/2)...), tableOf(1, nil, repeat(impl.Row{}, many)...), tableOf(1, list), tableOf(math.MaxInt64, repeat(int64(math.MaxInt64), 7), rowOf(0, make([]int64, 7)...)),
	} {
		other := tableOf(x.Secrets, x.Sizes, append(slices.Clone(x.Rows), rowOf(1))...)
		expect(t, "SameTable", show(impl.SameTable(x, x), impl.SameTable(x, other)), true, false)
		_, _, one := impl.ViewsOf(x, nil)
		_, two := impl.IsPerfect(x)
		_, three := impl.JoinTables(x, good)
		_, four := impl.PairTables(good, x)
		_, five := impl.DropColumn(x, 0)
		_, six := impl.RenameColumns(x, list)
		expect(t, "codes", show(impl.ValidTable(x), impl.TableText(x), one, two, three, four, five, six), false, "", 1, 1, 1, 1, 1, 1)
		expect(t, "GatherTable", show(impl.GatherTable(x.Secrets, x.Sizes, x.Rows)), none, impl.ErrInvalid)
	}
	_, one := impl.TableOpens(good, list)
	_, two := impl.OpenView(good, list, list)
	_, three := impl.OpenView(good, []int64{0}, list)
	_, four := impl.RenameColumns(good, list)
	_, five := impl.CurveTable(2, 1, countTo(many))
	_, six := impl.CurveTable(31, 1, list)
	_, seven := impl.ReadTable("table 1 1\n" + strings.Repeat("row 0 : 0\n", many/10))
	expect(t, "codes", show(one, two, three, four, five, six, seven), 2, 2, 2, 2, 2, 2, 2)
	expect(t, "a wide family", show(impl.FamilyTable(family(7, repeat([]int64{0}, many)...), 2)), none, impl.ErrInvalid)
	expect(t, "a long scheme", show(impl.SchemeTable(schemeOf(7, make([]int64, many), matrixOf(2, 1, repeat([]int64{}, many)...)))), none, impl.ErrInvalid)
	// All groups of three of seven holders draw 71 numbers, which would be far too many rows.
	triples, _ := impl.ThresholdFamily(7, 3)
	expect(t, "a great family", show(impl.FamilyTable(triples, 64)), none, impl.ErrLimit)
	expect(t, "a great scheme", show(impl.SchemeTable(schemeOf(7, nil, matrixOf(31, 12)))), none, impl.ErrLimit)
	expect(t, "a great curve", show(impl.CurveTable(31, 6, []int64{1, 2, 3, 4, 5, 6, 30})), none, impl.ErrLimit)
}
