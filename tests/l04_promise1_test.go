package tests

import (
	"math"
	"reflect"
	"slices"
	"strings"
	"testing"

	"loop.example/g01117/impl"
)

// chapter4 lists the functions of chapter 4 by their names.
func chapter4() map[string]any {
	return map[string]any{
		"ValidScheme": impl.ValidScheme, "SameScheme": impl.SameScheme, "SchemeText": impl.SchemeText, "ReadScheme": impl.ReadScheme,
		"RowsHeld": impl.RowsHeld, "SchemeOpens": impl.SchemeOpens, "FamilyOfScheme": impl.FamilyOfScheme, "OpeningElements": impl.OpeningElements,
		"SharesOf": impl.SharesOf, "Rebuild": impl.Rebuild, "IsConsistent": impl.IsConsistent, "CasesBySecret": impl.CasesBySecret,
		"Completion": impl.Completion, "SizesOf": impl.SizesOf, "CurveScheme": impl.CurveScheme, "SchemeOfGate": impl.SchemeOfGate,
		"SchemeOfFamily": impl.SchemeOfFamily, "DualScheme": impl.DualScheme, "EitherScheme": impl.EitherScheme, "BothScheme": impl.BothScheme,
		"ChangeBlinds": impl.ChangeBlinds, "TrimScheme": impl.TrimScheme,
	}
}

func trialSchemes() []impl.Scheme {
	draw := drawer(3)
	return append(brokenSchemes(), scheme("scheme 1 2 1\n"), scheme("scheme 7 31 12\n"), scheme("scheme 3 5 1\nrow A 0\nrow C 4\n"), scheme("scheme 2 7 2\nrow A 1 0\n"),
		scheme("scheme 3 5 2\nrow A 1 1\nrow B 1 2\nrow C 1 3\n"), scheme("scheme 3 2 3\nrow A 1 1 0\nrow B 0 1 1\nrow C 0 0 1\n"), scheme("scheme 7 7 3\nrow A 0 0 0\nrow A 1 2 3\nrow G 0 2 3\n"),
		someScheme(draw, 2, 7, 20, 12), someScheme(draw, 31, 3, 13, 12), someScheme(draw, 3, 2, 12, 6))
}

func TestPromise1AllArgumentsOfRows(t *testing.T) {
	tryAll(t, chapter4(), "Rebuild", "IsConsistent", "CasesBySecret", "Completion")
	for _, text := range []string{"scheme 1 2 1\n", "scheme 3 5 2\nrow A 1 2\nrow B 0 4\n", "scheme 3 5 2\nrow D 1 2\n", "scheme 3 5 2\nrow A\n", "scheme 3 5\n", "scheme 3 5 2\nrow \n", "scheme 3 5 2\n\n", "scheme 9223372036854775808 2 1\n"} {
		tryCall(t, "ReadScheme", reflect.ValueOf(impl.ReadScheme), []reflect.Value{reflect.ValueOf(text)})
	}
}

// TestPromise1SharesForSchemes gives groups, shares, blinds and matrices that fit the schemes, so that they are not just refused.
func TestPromise1SharesForSchemes(t *testing.T) {
	try := trier(t, chapter4())
	draw := drawer(4)
	for _, s := range append(trialSchemes(), smallSchemes()[:40]...) {
		if !isScheme(s) {
			continue
		}
		p, cols := s.Matrix.Prime, s.Matrix.Cols
		for _, drawn := range trialTargets(draw, p, int(cols), nil)[:2] {
			try("SharesOf", s, drawn[0], drawn[1:])
			for _, mask := range []int{0, 1, 1<<s.Holders - 1} {
				held := sharesBy(matrixHeldBy(s, mask), drawn)
				for range 2 {
					try("Rebuild", s, members(mask), held)
					try("IsConsistent", s, members(mask), held)
					try("CasesBySecret", s, members(mask), held)
					try("Completion", s, members(mask), held, drawn[0])
					for i := range held {
						held[i] = draw(p)
					}
				}
			}
		}
		m := goodSquare(draw, p, cols)
		m.Rows[0] = unit(cols, 0)
		try("ChangeBlinds", s, m)
		try("ChangeBlinds", s, identity(p, cols))
		try("BothScheme", s, s)
		try("EitherScheme", s, s)
	}
}

// TestPromise1SchemesShareNothing gives the same memory as several rows, as rows and owners, and as both schemes.
func TestPromise1SchemesShareNothing(t *testing.T) {
	row := []int64{1, 2}
	s := schemeOf(3, row, matrixOf(5, 2, row, row))
	before := schemeText(s)
	either, one := impl.EitherScheme(s, s)
	both, two := impl.BothScheme(s, s)
	changed, three := impl.ChangeBlinds(s, matrixOf(5, 2, []int64{1, 0}, row))
	trimmed, four := impl.TrimScheme(schemeOf(3, row, matrixOf(5, 2, row, row)))
	dual, five := impl.DualScheme(schemeOf(3, row, matrixOf(5, 2, []int64{1, 0}, row)))
	read, six := impl.ReadScheme(before)
	expect(t, "codes", show(one, two, three, four, five, six), 0, 0, 0, 0, 0, 0)
	results := []impl.Scheme{either, both, changed, trimmed, dual, read}
	texts := []string{"scheme 3 5 3\nrow B 1 2 0\nrow C 1 2 0\nrow B 1 0 2\nrow C 1 0 2\n", "scheme 3 5 4\nrow B 0 1 2 0\nrow C 0 1 2 0\nrow B 1 4 0 2\nrow C 1 4 0 2\n",
		"scheme 3 5 2\nrow B 3 4\nrow C 3 4\n", before, "scheme 3 5 1\nrow B 1\nrow C 0\n", before}
	for i, result := range results {
		expect(t, "a result", show(schemeText(result)), texts[i])
		if overlap(spansOf(reflect.ValueOf(result)), spansOf(reflect.ValueOf(s))) {
			t.Errorf("%s shares memory with its argument or itself", texts[i])
		}
		_ = append(result.Owners, 9)
		clear(result.Owners)
		for k, list := range result.Matrix.Rows {
			_ = append(list, 9)
			if k > 0 && result.Matrix.Rows[k][0] > 4 {
				t.Errorf("%s: writing behind a row changed the next one", texts[i])
			}
			clear(list)
		}
	}
	expect(t, "the argument", show(schemeText(s)), before)
}

// TestPromise1SharedLists gives the same memory as a group, as shares and as blinds.
func TestPromise1SharedLists(t *testing.T) {
	list := []int64{0, 1}
	s := schemeOf(2, list, matrixOf(5, 3, []int64{1, 1, 0}, []int64{1, 2, 0}))
	completed, one := impl.Completion(s, list, list, 4)
	shares, two := impl.SharesOf(s, 1, list)
	rows, three := impl.RowsHeld(s, list)
	elements, four := impl.OpeningElements(s, list)
	sizes, five := impl.SizesOf(s)
	expect(t, "results", show(completed, one, shares, two, rows, three, elements, four, sizes, five), []int64{1, 0}, 0, []int64{1, 1}, 0, []int64{0, 1}, 0, []int64{2, 4}, 0, []int64{1, 1}, 0)
	for _, result := range [][]int64{completed, shares, rows, elements, sizes} {
		_ = append(result, 9)
		clear(result)
	}
	expect(t, "the argument", show(list, schemeText(s)), []int64{0, 1}, "scheme 2 5 3\nrow A 1 1 0\nrow B 1 2 0\n")
}

func TestPromise1NilIsEmptyInSchemes(t *testing.T) {
	empty := func(cols int64) impl.Scheme {
		return schemeOf(3, []int64{}, impl.Matrix{Prime: 5, Cols: cols, Rows: [][]int64{}})
	}
	for _, cols := range []int64{0, 1, 3} {
		nils, empties := schemeOf(3, nil, matrixOf(5, cols)), empty(cols)
		expect(t, "SameScheme", show(impl.SameScheme(nils, empties), impl.SameScheme(empties, nils)), true, true)
		for name, f := range chapter4() {
			function := reflect.ValueOf(f)
			kind := function.Type()
			if kind.In(0) != reflect.TypeFor[impl.Scheme]() {
				continue
			}
			first, second := []reflect.Value{reflect.ValueOf(nils)}, []reflect.Value{reflect.ValueOf(empties)}
			for i := 1; i < kind.NumIn(); i++ {
				switch kind.In(i) {
				case reflect.TypeFor[[]int64]():
					first, second = append(first, reflect.ValueOf([]int64(nil))), append(second, reflect.ValueOf([]int64{}))
				case reflect.TypeFor[impl.Scheme]():
					first, second = append(first, reflect.ValueOf(empties)), append(second, reflect.ValueOf(nils))
				default:
					zero := reflect.Zero(kind.In(i))
					first, second = append(first, zero), append(second, zero)
				}
			}
			a, b := function.Call(first), function.Call(second)
			for k := range a {
				expect(t, name, show(a[k].Interface()), b[k].Interface())
			}
		}
	}
}

func TestPromise1HugeSchemes(t *testing.T) {
	const many = 1_000_000
	none := impl.Scheme{}
	for _, s := range []impl.Scheme{
		schemeOf(7, repeat(int64(0), many), matrixOf(2, 1)), schemeOf(7, repeat(int64(0), many/2), matrixOf(2, 1, repeat([]int64{}, many/2)...)), schemeOf(7, []int64{0}, matrixOf(2, 1, repeat(int64(1), many))),
		schemeOf(7, repeat(int64(0), 1000), matrixOf(2, 12, repeat(repeat(int64(1), 900), 1000)...)), schemeOf(many, nil, matrixOf(2, 1)), schemeOf(7, nil, matrixOf(2, many)), schemeOf(math.MaxInt64, nil, matrixOf(math.MaxInt64, math.MaxInt64)),
	} {
		other := schemeOf(s.Holders, append(slices.Clone(s.Owners), 1), s.Matrix)
		expect(t, "SameScheme", show(impl.SameScheme(s, s), impl.SameScheme(s, other)), true, false)
		_, one := impl.FamilyOfScheme(s)
		_, two := impl.DualScheme(s)
		_, three := impl.BothScheme(s, s)
		_, four := impl.EitherScheme(s, s)
		_, five := impl.TrimScheme(s)
		_, six := impl.SizesOf(s)
		_, seven := impl.ChangeBlinds(s, s.Matrix)
		expect(t, "codes", show(impl.ValidScheme(s), impl.SchemeText(s), one, two, three, four, five, six, seven), false, "", 1, 1, 1, 1, 1, 1, 1)
	}
	list, good := repeat(int64(0), many), scheme("scheme 3 5 2\nrow A 1 1\nrow B 1 2\nrow C 1 3\n")
	_, one := impl.RowsHeld(good, list)
	_, two := impl.SharesOf(good, 0, list)
	_, three := impl.Rebuild(good, nil, list)
	_, four := impl.CasesBySecret(good, list, nil)
	_, five := impl.Completion(good, []int64{0}, list, 0)
	_, six := impl.ReadScheme("scheme 3 2 1\n" + strings.Repeat("row\n", many/4))
	expect(t, "codes", show(one, two, three, four, five, six), 2, 2, 2, 2, 2, 2)
	wideGate, deep := gateOf(1, repeat(leafOf(0), many)...), deepGate(10000, 0)
	expect(t, "a wide gate", show(impl.SchemeOfGate(5, 3, wideGate)), none, impl.ErrInvalid)
	expect(t, "a deep gate", show(impl.SchemeOfGate(5, 3, deep)), none, impl.ErrInvalid)
	expect(t, "a wide family", show(impl.SchemeOfFamily(5, family(7, repeat([]int64{0}, many)...))), none, impl.ErrInvalid)
}
