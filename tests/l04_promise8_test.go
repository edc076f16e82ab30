package tests

import (
	"math"
	"slices"
	"testing"

	"loop.example/g01117/impl"
)

func TestPromise8Curves(t *testing.T) {
	for _, p := range allPrimes() {
		for holders := int64(-1); holders <= 9; holders++ {
			for least := int64(-1); least <= 10; least++ {
				wanted, code := impl.Scheme{}, int64(impl.ErrRange)
				if holders >= 1 && holders <= 7 && least >= 1 && least <= holders {
					code = impl.ErrState
					if p > holders {
						wanted, code = curveByDefinition(p, holders, least), impl.OK
					}
				}
				s, got := impl.CurveScheme(p, holders, least)
				expect(t, "CurveScheme of "+show(p, holders, least), show(s, got), wanted, code)
				if code == impl.OK {
					r := newRule(int(holders), func(mask int) bool { return len(members(mask)) >= int(least) })
					expect(t, "its family", show(impl.FamilyOfScheme(s)), r.family(), impl.OK)
				}
			}
		}
		for _, far := range []int64{math.MinInt64, 1 << 32, 1<<32 + 1, math.MaxInt64} {
			expect(t, "far too many holders", show(impl.CurveScheme(p, far, 1)), impl.Scheme{}, impl.ErrRange)
			expect(t, "far too many needed", show(impl.CurveScheme(p, 1, far)), impl.Scheme{}, impl.ErrRange)
		}
	}
	for _, p := range []int64{math.MinInt64, -3, 0, 1, 4, 6, 8, 9, 32, 37, math.MaxInt64} {
		expect(t, "no prime", show(impl.CurveScheme(p, 3, 2)), impl.Scheme{}, impl.ErrRange)
	}
}

func curveByDefinition(p, holders, least int64) impl.Scheme {
	s := schemeOf(holders, countTo(holders), matrixOf(p, least))
	for h := range holders {
		row := []int64{}
		for power := int64(1); int64(len(row)) < least; power = power * (h + 1) % p {
			row = append(row, power)
		}
		s.Matrix.Rows = append(s.Matrix.Rows, row)
	}
	return s
}

// gatesOfLimits have just 20 and 21 leaves, 12 and 13 columns, or both too many.
func gatesOfLimits() map[string]impl.Gate {
	leaves := func(least int64, count int) impl.Gate { return gateOf(least, repeat(leafOf(0), count)...) }
	return map[string]impl.Gate{
		"20 rows": leaves(1, 20), "21 rows": leaves(1, 21), "12 columns": leaves(12, 12), "13 columns": leaves(13, 13),
		"20 rows, 12 columns": leaves(12, 20), "20 rows, 13 columns": leaves(13, 20), "21 rows, 12 columns": leaves(12, 21), "21 rows, 13 columns": leaves(13, 21),
		"12 columns of many nodes": gateOf(6, leaves(2, 3), leaves(3, 3), leafOf(1), leaves(3, 3), leaves(1, 2), leaves(2, 2)),
		"13 columns of many nodes": gateOf(6, leaves(2, 3), leaves(3, 3), leafOf(1), leaves(3, 3), leaves(2, 2), leaves(2, 2)),
		"20 rows of many nodes":    gateOf(1, leaves(1, 6), leafOf(2), leaves(2, 6), leaves(1, 7)),
		"21 rows of many nodes":    gateOf(1, leaves(1, 6), leafOf(2), leaves(2, 7), leaves(1, 7)),
		"30 kids":                  leaves(1, 30), "30 of 30 kids": leaves(30, 30), "31 kids": leaves(1, 31), "59 of 59 kids": leaves(59, 59),
	}
}

func TestPromise8GatesAtLimits(t *testing.T) {
	codes := map[string]int64{"20 rows": impl.OK, "12 columns": impl.OK, "20 rows, 12 columns": impl.OK, "12 columns of many nodes": impl.OK, "20 rows of many nodes": impl.OK, "31 kids": impl.ErrState, "59 of 59 kids": impl.ErrState}
	for name, g := range gatesOfLimits() {
		wanted, code := impl.Scheme{}, int64(impl.ErrLimit)
		if found, ok := codes[name]; ok {
			code = found
		}
		if code == impl.OK {
			wanted = schemeOfTree(31, 3, g)
		}
		expect(t, name, show(impl.SchemeOfGate(31, 3, g)), wanted, code)
		expect(t, name+", and a small prime", show(impl.SchemeOfGate(2, 3, g)), impl.Scheme{}, impl.ErrState)
	}
}

func TestPromise8GatesAndPrimes(t *testing.T) {
	for _, p := range allPrimes() {
		for kids := 1; kids <= 20; kids++ {
			flat := gateOf(1, repeat(leafOf(2), kids)...)
			for _, g := range []impl.Gate{flat, gateOf(1, flat), gateOf(1, gateOf(1, leafOf(0)), flat)} {
				wanted, code := schemeOfTree(p, 3, g), codeOfTree(p, g)
				if code != impl.OK {
					wanted = impl.Scheme{}
				}
				expect(t, "SchemeOfGate of "+show(p, textOf(g)), show(impl.SchemeOfGate(p, 3, g)), wanted, code)
				expect(t, "a node with p kids or more", show(code == impl.ErrState), widest(g) >= int(p))
			}
		}
	}
	expect(t, "a leaf", show(impl.SchemeOfGate(2, 7, leafOf(6))), scheme("scheme 7 2 1\nrow G 1\n"), impl.OK)
	expect(t, "a leaf in nodes", show(impl.SchemeOfGate(2, 3, gate("1(1(1(B)))"))), scheme("scheme 3 2 1\nrow B 1\n"), impl.OK)
}

func TestPromise8SchemesOfGates(t *testing.T) {
	counts := map[int64]int{}
	primes := allPrimes()
	everyGate(func(holders int64, g impl.Gate) {
		for _, p := range []int64{2, 3, 5, 7, 11, 31, primes[sizeOf(g)%len(primes)]} {
			wanted, code := impl.Scheme{}, codeOfTree(p, g)
			if code == impl.OK {
				wanted = schemeOfTree(p, holders, g)
			}
			s, got := impl.SchemeOfGate(p, holders, g)
			expect(t, "SchemeOfGate of "+show(p, textOf(g)), show(s, got), wanted, code)
			counts[code]++
			if code == impl.OK && p == 31 {
				expect(t, "the family of the scheme of "+textOf(g), show(impl.FamilyOfScheme(s)), ruleOfGate(holders, g).family(), impl.OK)
			}
		}
	})
	for _, code := range []int64{impl.OK, impl.ErrState, impl.ErrLimit} {
		if counts[code] < 100 {
			t.Errorf("only %d gates with the code %d", counts[code], code)
		}
	}
}

// TestPromise8NewColumns has nodes behind others that have added columns, which come at different places.
func TestPromise8NewColumns(t *testing.T) {
	for text, wanted := range map[string]string{
		"2(2(A, B), 2(C, A))":             "scheme 3 5 4\nrow A 1 1 1 0\nrow B 1 1 2 0\nrow C 1 2 0 1\nrow A 1 2 0 2\n",
		"2(2(A, B), C)":                   "scheme 3 5 3\nrow A 1 1 1\nrow B 1 1 2\nrow C 1 2 0\n",
		"2(A, 2(B, 2(C, A)), 2(A, B), C)": "scheme 3 5 5\nrow A 1 1 0 0 0\nrow B 1 2 1 0 0\nrow C 1 2 2 1 0\nrow A 1 2 2 2 0\nrow A 1 3 0 0 1\nrow B 1 3 0 0 2\nrow C 1 4 0 0 0\n",
		"1(2(A, B), 3(A, B, C), 2(B, C))": "scheme 3 5 5\nrow A 1 1 0 0 0\nrow B 1 2 0 0 0\nrow A 1 0 1 1 0\nrow B 1 0 2 4 0\nrow C 1 0 3 4 0\nrow B 1 0 0 0 1\nrow C 1 0 0 0 2\n",
		"3(1(A, B), 2(C, A), B)":          "scheme 3 5 4\nrow A 1 1 1 0\nrow B 1 1 1 0\nrow C 1 2 4 1\nrow A 1 2 4 2\nrow B 1 3 4 0\n",
	} {
		expect(t, "SchemeOfGate of "+text, show(impl.SchemeOfGate(5, 3, gate(text))), scheme(wanted), impl.OK)
	}
}

func TestPromise8GateErrors(t *testing.T) {
	none := impl.Scheme{}
	noPrimes := []int64{math.MinInt64, -5, 0, 1, 4, 9, 27, 32, 33, 37, math.MaxInt64}
	noHolders := []int64{math.MinInt64, -1, 0, 8, math.MaxInt64}
	for _, g := range append(brokenGates(), leafOf(0), wide(60), gate("1(A, B)")) {
		for _, p := range noPrimes {
			expect(t, "no prime", show(impl.SchemeOfGate(p, 3, g)), none, impl.ErrRange)
		}
		for _, holders := range noHolders {
			expect(t, "no holders", show(impl.SchemeOfGate(5, holders, g)), none, impl.ErrRange)
		}
	}
	for _, g := range brokenGates() {
		expect(t, "a broken gate", show(impl.SchemeOfGate(2, 3, g)), none, impl.ErrInvalid)
		expect(t, "a broken gate", show(impl.SchemeOfGate(31, 3, g)), none, impl.ErrInvalid)
	}
	for holders := int64(1); holders <= 7; holders++ {
		expect(t, "a holder too many", show(impl.SchemeOfGate(5, holders, leafOf(holders))), none, impl.ErrInvalid)
	}
}

func TestPromise8SchemesOfFamilies(t *testing.T) {
	counts := map[int64]int{}
	everyRule(func(r rule, f impl.Family) {
		for _, p := range []int64{2, 3, 5, 7, 13, 31} {
			// The gate is refused before the prime is found to be too small.
			wanted, code := impl.Scheme{}, int64(impl.ErrState)
			if len(f.Groups) > 0 && len(f.Groups[0]) > 0 {
				g, _ := gateWithText(gateTextOf(f))
				code = impl.ErrLimit
				if isGate(f.Holders, g) {
					code = codeOfTree(p, g)
				}
				if code == impl.OK {
					wanted = schemeOfTree(p, f.Holders, g)
				}
			}
			s, got := impl.SchemeOfFamily(p, f)
			expect(t, "SchemeOfFamily of "+show(p, f), show(s, got), wanted, code)
			if counts[code]++; code == impl.OK {
				expect(t, "the family of the scheme of "+show(f), show(impl.FamilyOfScheme(s)), f, impl.OK)
			}
		}
	})
	for _, code := range []int64{impl.OK, impl.ErrState, impl.ErrLimit} {
		if counts[code] < 5 {
			t.Errorf("only %d families with the code %d", counts[code], code)
		}
	}
}

func TestPromise8FamilyErrors(t *testing.T) {
	none := impl.Scheme{}
	for _, f := range append(brokenFamilies(), nobody(3), everybody(3), family(3, []int64{0})) {
		for _, p := range []int64{math.MinInt64, -2, 0, 1, 4, 15, 32, 37, math.MaxInt64} {
			expect(t, "no prime", show(impl.SchemeOfFamily(p, f)), none, impl.ErrRange)
		}
	}
	for _, f := range brokenFamilies() {
		expect(t, "a broken family", show(impl.SchemeOfFamily(2, f)), none, impl.ErrInvalid)
	}
	large, _ := impl.ThresholdFamily(7, 3)
	_, code := impl.GateOfFamily(large)
	expect(t, "the gate is too large", show(code), impl.ErrLimit)
	expect(t, "the gate is too large, and the prime too small", show(impl.SchemeOfFamily(2, large)), none, impl.ErrLimit)
	pairs, _ := impl.ThresholdFamily(7, 2)
	expect(t, "the scheme is too large", show(impl.SchemeOfFamily(31, pairs)), none, impl.ErrLimit)
	expect(t, "and the prime is too small", show(impl.SchemeOfFamily(19, pairs)), none, impl.ErrLimit)
	expect(t, "nobody opens", show(impl.SchemeOfFamily(5, nobody(7))), none, impl.ErrState)
	expect(t, "everybody opens", show(impl.SchemeOfFamily(5, everybody(7))), none, impl.ErrState)
	expect(t, "one opens", show(impl.SchemeOfFamily(2, family(7, []int64{6}))), scheme("scheme 7 2 1\nrow G 1\n"), impl.OK)
}

func TestPromise8Duals(t *testing.T) {
	counts := map[int64]int{}
	everyScheme(func(s impl.Scheme) {
		r, what := ruleOfScheme(s), "DualScheme of "+schemeText(s)
		dual, code := impl.DualScheme(s)
		wanted := int64(impl.OK)
		if !r[len(r)-1] {
			wanted = impl.ErrState
		} else if len(s.Owners) > 12 {
			wanted = impl.ErrLimit
		}
		counts[wanted]++
		if wanted != impl.OK {
			expect(t, what, show(dual, code), impl.Scheme{}, wanted)
			return
		}
		expect(t, what+show(dual), show(code, isScheme(dual), dual.Holders, dual.Owners), impl.OK, true, s.Holders, s.Owners)
		transposed := matrixOf(s.Matrix.Prime, int64(len(s.Owners)), columns(s.Matrix)...)
		found := columns(dual.Matrix)
		kernel := matrixOf(s.Matrix.Prime, int64(len(s.Owners)), found[1:]...)
		expect(t, what, show(isSolution(transposed, unit(s.Matrix.Cols, 0), found[0]), isKernel(transposed, kernel)), true, true)
		opposite := newRule(int(s.Holders), func(mask int) bool { return !r[len(r)-1-mask] })
		expect(t, "the family of the "+what, show(impl.FamilyOfScheme(dual)), opposite.family(), impl.OK)
	})
	for _, code := range []int64{impl.OK, impl.ErrState, impl.ErrLimit} {
		if counts[code] < 20 {
			t.Errorf("only %d schemes with the code %d", counts[code], code)
		}
	}
}

func TestPromise8DualErrors(t *testing.T) {
	for rows := range 21 {
		for cols := int64(1); cols <= 12; cols++ {
			zeros := schemeOf(2, make([]int64, rows), matrixOf(3, cols, repeat(make([]int64, cols), rows)...))
			expect(t, "all do not open", show(impl.DualScheme(zeros)), impl.Scheme{}, impl.ErrState)
			if rows == 0 {
				continue
			}
			zeros.Matrix.Rows[rows-1] = unit(cols, 0)
			dual, code := impl.DualScheme(zeros)
			if rows > 12 {
				expect(t, "too many rows", show(dual, code), impl.Scheme{}, impl.ErrLimit)
				continue
			}
			expect(t, "as many columns as rows", show(dual.Matrix.Cols, code), rows, impl.OK)
		}
	}
	for _, s := range brokenSchemes() {
		expect(t, "a broken scheme", show(impl.DualScheme(s)), impl.Scheme{}, impl.ErrInvalid)
	}
	expect(t, "a curve", show(impl.DualScheme(scheme("scheme 3 5 2\nrow A 1 1\nrow B 1 2\nrow C 1 3\n"))), scheme("scheme 3 5 2\nrow A 2 1\nrow B 4 3\nrow C 0 1\n"), impl.OK)
}

// schemePairs runs a check for pairs of schemes, with as many holders and the same prime, and with others.
func schemePairs(check func(s, t impl.Scheme)) {
	var few []impl.Scheme
	for _, s := range smallSchemes() {
		if s.Matrix.Prime == 2 && len(s.Owners) <= 2 && s.Holders == 2 && s.Matrix.Cols <= 2 {
			few = append(few, s)
		}
	}
	for _, s := range few {
		for _, t := range few {
			check(s, t)
		}
	}
	for _, p := range allPrimes() {
		draw := drawer(uint64(p) + 400)
		for range 100 {
			holders := 1 + draw(7)
			s, t := someScheme(draw, p, holders, draw(14), 1+draw(7)), someScheme(draw, p, holders, draw(14), 1+draw(7))
			if draw(8) == 0 {
				t.Holders = 7
			}
			if draw(8) == 0 && p < 31 {
				t.Matrix.Prime = 31
			}
			check(s, t)
		}
	}
}

// joined returns the scheme of two, or the code with which it is refused; the columns of a scheme are to be at the places given.
func joined(s, t impl.Scheme, cols int64, place func(second bool, row []int64, wide []int64)) (impl.Scheme, int64) {
	if s.Holders != t.Holders || s.Matrix.Prime != t.Matrix.Prime {
		return impl.Scheme{}, impl.ErrRange
	}
	if cols > 12 || len(s.Owners)+len(t.Owners) > 20 {
		return impl.Scheme{}, impl.ErrLimit
	}
	result := schemeOf(s.Holders, slices.Concat(s.Owners, t.Owners), matrixOf(s.Matrix.Prime, cols))
	for i, row := range slices.Concat(s.Matrix.Rows, t.Matrix.Rows) {
		wide := make([]int64, cols)
		place(i >= len(s.Owners), row, wide)
		result.Matrix.Rows = append(result.Matrix.Rows, wide)
	}
	return result, impl.OK
}

func eitherByDefinition(s, t impl.Scheme) (impl.Scheme, int64) {
	return joined(s, t, s.Matrix.Cols+t.Matrix.Cols-1, func(second bool, row, wide []int64) {
		wide[0] = row[0]
		for col := 1; col < len(row); col++ {
			if second {
				wide[int(s.Matrix.Cols)-1+col] = row[col]
			} else {
				wide[col] = row[col]
			}
		}
	})
}

func bothByDefinition(s, t impl.Scheme) (impl.Scheme, int64) {
	return joined(s, t, s.Matrix.Cols+t.Matrix.Cols, func(second bool, row, wide []int64) {
		p := s.Matrix.Prime
		if second {
			wide[0], wide[1] = row[0], (p-row[0])%p
			copy(wide[1+s.Matrix.Cols:], row[1:])
			return
		}
		copy(wide[1:], row)
	})
}

func TestPromise8EitherAndBoth(t *testing.T) {
	counts := map[int64]int{}
	schemePairs(func(s, u impl.Scheme) {
		what := " of " + schemeText(s) + schemeText(u)
		wanted, code := eitherByDefinition(s, u)
		either, got := impl.EitherScheme(s, u)
		expect(t, "EitherScheme"+what, show(either, got), wanted, code)
		r, q := ruleOfScheme(s), ruleOfScheme(u)
		if counts[code]++; code == impl.OK {
			opens := newRule(int(s.Holders), func(mask int) bool { return r[mask] || q[mask] })
			expect(t, "the family of EitherScheme"+what, show(impl.FamilyOfScheme(either)), opens.family(), impl.OK)
		}
		wanted, code = bothByDefinition(s, u)
		both, got := impl.BothScheme(s, u)
		expect(t, "BothScheme"+what, show(both, got), wanted, code)
		if counts[code]++; code == impl.OK {
			opens := newRule(int(s.Holders), func(mask int) bool { return r[mask] && q[mask] })
			expect(t, "the family of BothScheme"+what, show(impl.FamilyOfScheme(both)), opens.family(), impl.OK)
		}
	})
	for _, code := range []int64{impl.OK, impl.ErrRange, impl.ErrLimit} {
		if counts[code] < 100 {
			t.Errorf("only %d pairs with the code %d", counts[code], code)
		}
	}
}

// sized returns a scheme of some size whose rows are those of the secret.
func sized(holders, p int64, rows int, cols int64) impl.Scheme {
	return schemeOf(holders, make([]int64, rows), matrixOf(p, cols, repeat(unit(cols, 0), rows)...))
}

func TestPromise8JoinedErrors(t *testing.T) {
	none := impl.Scheme{}
	for _, sizes := range [][4]int64{{10, 10, 6, 6}, {20, 0, 1, 11}, {0, 20, 11, 1}, {10, 11, 6, 6}, {11, 10, 1, 1}, {20, 1, 1, 1}, {0, 0, 6, 7}, {0, 0, 7, 6}, {0, 0, 12, 1}, {0, 0, 1, 12}, {1, 1, 12, 2}, {1, 1, 2, 12}, {20, 20, 12, 12}} {
		s, u := sized(3, 5, int(sizes[0]), sizes[2]), sized(3, 5, int(sizes[1]), sizes[3])
		wanted, code := eitherByDefinition(s, u)
		expect(t, "EitherScheme of "+show(sizes), show(impl.EitherScheme(s, u)), wanted, code)
		wanted, code = bothByDefinition(s, u)
		expect(t, "BothScheme of "+show(sizes), show(impl.BothScheme(s, u)), wanted, code)
		for _, other := range []impl.Scheme{sized(4, 5, int(sizes[1]), sizes[3]), sized(3, 7, int(sizes[1]), sizes[3]), sized(2, 3, int(sizes[1]), sizes[3])} {
			expect(t, "another number or prime", show(impl.EitherScheme(s, other)), none, impl.ErrRange)
			expect(t, "another number or prime", show(impl.BothScheme(s, other)), none, impl.ErrRange)
			expect(t, "another number or prime", show(impl.EitherScheme(other, s)), none, impl.ErrRange)
			expect(t, "another number or prime", show(impl.BothScheme(other, s)), none, impl.ErrRange)
		}
	}
	for _, s := range brokenSchemes() {
		for _, good := range []impl.Scheme{sized(3, 5, 20, 12), sized(7, 2, 0, 1)} {
			expect(t, "a broken scheme", show(impl.EitherScheme(s, good)), none, impl.ErrInvalid)
			expect(t, "a broken scheme", show(impl.EitherScheme(good, s)), none, impl.ErrInvalid)
			expect(t, "a broken scheme", show(impl.BothScheme(s, good)), none, impl.ErrInvalid)
			expect(t, "a broken scheme", show(impl.BothScheme(good, s)), none, impl.ErrInvalid)
		}
	}
}

func TestPromise8MixedBlinds(t *testing.T) {
	mixed, refused := 0, 0
	for _, s := range append(someSchemes(), scheme("scheme 2 2 2\nrow A 1 1\nrow B 0 1\n"), scheme("scheme 2 3 1\nrow A 2\n")) {
		p, cols := s.Matrix.Prime, s.Matrix.Cols
		draw := drawer(uint64(p*cols) + 8)
		for range 4 {
			m := goodSquare(draw, p, cols)
			m.Rows[0] = unit(cols, 0)
			if draw(4) == 0 {
				m.Rows[0][draw(cols)] = draw(p)
			}
			what := "ChangeBlinds of " + schemeText(s) + matrixText(m)
			changed, code := impl.ChangeBlinds(s, m)
			if span, _ := spanOf(p, m.Rows); len(span.first) < int(cols) || !slices.Equal(m.Rows[0], unit(cols, 0)) {
				refused++
				expect(t, what, show(changed, code), impl.Scheme{}, impl.ErrState)
				continue
			}
			mixed++
			expect(t, what, show(changed, code), schemeOf(s.Holders, s.Owners, productByDefinition(s.Matrix, m)), impl.OK)
			expect(t, "the family of "+what, show(impl.FamilyOfScheme(changed)), ruleOfScheme(s).family(), impl.OK)
		}
		expect(t, "nothing is mixed", show(impl.ChangeBlinds(s, identity(p, cols))), s, impl.OK)
	}
	if mixed < 300 || refused < 100 {
		t.Errorf("%d schemes that are mixed and %d that are refused are too few", mixed, refused)
	}
}

func TestPromise8MixErrors(t *testing.T) {
	s, none := scheme("scheme 2 5 3\nrow A 1 1 0\nrow B 0 2 1\n"), impl.Scheme{}
	for _, m := range allMatrices(5, 1, 1) {
		wanted, code := none, int64(impl.ErrState)
		if m.Rows[0][0] == 1 {
			wanted, code = scheme("scheme 2 5 1\nrow A 3\n"), impl.OK
		}
		expect(t, "only the secret", show(impl.ChangeBlinds(scheme("scheme 2 5 1\nrow A 3\n"), m)), wanted, code)
	}
	for _, m := range []impl.Matrix{identity(7, 3), identity(5, 2), identity(5, 4), matrixOf(5, 3), matrixOf(5, 3, unit(3, 0), unit(3, 1)), matrixOf(5, 2, []int64{1, 0}, []int64{0, 1}, []int64{0, 0}),
		matrixOf(5, 3, unit(3, 0), unit(3, 1), unit(3, 2), unit(3, 2)), matrixOf(5, 0), matrixOf(2, 3, unit(3, 1), unit(3, 1), unit(3, 1)), matrixOf(5, 4, unit(4, 0), unit(4, 1), unit(4, 2))} {
		expect(t, "another prime or size", show(impl.ChangeBlinds(s, m)), none, impl.ErrRange)
	}
	for _, m := range []impl.Matrix{matrixOf(5, 3, []int64{1, 0, 1}, unit(3, 1), unit(3, 2)), matrixOf(5, 3, []int64{2, 0, 0}, unit(3, 1), unit(3, 2)), matrixOf(5, 3, unit(3, 0), unit(3, 1), []int64{1, 1, 0}), matrixOf(5, 3, unit(3, 0), []int64{1, 2, 3}, []int64{4, 4, 1}),
		matrixOf(5, 3, unit(3, 1), unit(3, 0), unit(3, 2)), matrixOf(5, 3, []int64{0, 0, 0}, unit(3, 1), unit(3, 2))} {
		expect(t, "no inverse, or another first row", show(impl.ChangeBlinds(s, m)), none, impl.ErrState)
	}
	m := matrixOf(5, 3, unit(3, 0), []int64{1, 2, 3}, []int64{4, 4, 2})
	expect(t, "a good one", show(impl.ChangeBlinds(s, m)), scheme("scheme 2 5 3\nrow A 2 2 3\nrow B 1 3 3\n"), impl.OK)
	for _, broken := range brokenMatrices() {
		expect(t, "a broken matrix", show(impl.ChangeBlinds(s, broken)), none, impl.ErrInvalid)
	}
	for _, broken := range brokenSchemes() {
		expect(t, "a broken scheme", show(impl.ChangeBlinds(broken, identity(7, 3))), none, impl.ErrInvalid)
	}
}

// trimmedByDefinition leaves out rows and columns that are spanned by those before them.
func trimmedByDefinition(s impl.Scheme) impl.Scheme {
	own := map[int64]listSpan{}
	result := schemeOf(s.Holders, nil, matrixOf(s.Matrix.Prime, 1))
	_, isNew := spanOf(s.Matrix.Prime, columns(s.Matrix)[1:])
	for i, row := range s.Matrix.Rows {
		owner := s.Owners[i]
		if _, ok := own[owner]; !ok {
			own[owner] = newSpan(s.Matrix.Prime)
		}
		if !own[owner].take(row) {
			continue
		}
		kept := row[:1:1]
		for col, n := range row[1:] {
			if isNew[col] {
				kept = append(kept, n)
			}
		}
		result.Owners, result.Matrix.Rows = append(result.Owners, owner), append(result.Matrix.Rows, kept)
	}
	for _, new := range isNew {
		if new {
			result.Matrix.Cols++
		}
	}
	return result
}

func TestPromise8Trimmed(t *testing.T) {
	fewer := 0
	everyScheme(func(s impl.Scheme) {
		wanted, what := trimmedByDefinition(s), "TrimScheme of "+schemeText(s)
		trimmed, code := impl.TrimScheme(s)
		expect(t, what, show(trimmed, code), wanted, impl.OK)
		expect(t, "the family of "+what, show(impl.FamilyOfScheme(trimmed)), ruleOfScheme(s).family(), impl.OK)
		expect(t, "what is trimmed already", show(impl.TrimScheme(trimmed)), trimmed, impl.OK)
		if len(wanted.Owners) < len(s.Owners) && wanted.Matrix.Cols < s.Matrix.Cols {
			fewer++
		}
	})
	if fewer < 100 {
		t.Errorf("only %d schemes have fewer rows and columns when they are trimmed", fewer)
	}
	for text, wanted := range map[string]string{
		"scheme 2 5 3\nrow A 1 2 4\nrow A 2 4 3\nrow B 0 1 2\n": "scheme 2 5 2\nrow A 1 2\nrow B 0 1\n",
		"scheme 2 5 2\nrow A 0 0\nrow B 0 0\n":                  "scheme 2 5 1\n",
		"scheme 2 5 12\n":                                       "scheme 2 5 1\n",
		"scheme 2 5 1\nrow A 2\nrow B 2\nrow A 1\nrow B 4\n":    "scheme 2 5 1\nrow A 2\nrow B 2\n",
		"scheme 2 5 2\nrow A 1 1\nrow B 2 2\nrow A 1 2\n":       "scheme 2 5 2\nrow A 1 1\nrow B 2 2\nrow A 1 2\n",
		"scheme 2 5 3\nrow A 0 0 1\nrow B 1 0 1\n":              "scheme 2 5 2\nrow A 0 1\nrow B 1 1\n",
		"scheme 2 5 3\nrow A 0 1 1\nrow B 0 2 1\nrow A 0 3 3\n": "scheme 2 5 3\nrow A 0 1 1\nrow B 0 2 1\n",
		"scheme 2 2 2\nrow A 1 1\nrow A 0 1\nrow A 1 0\n":       "scheme 2 2 2\nrow A 1 1\nrow A 0 1\n",
	} {
		expect(t, "TrimScheme of "+text, show(impl.TrimScheme(scheme(text))), scheme(wanted), impl.OK)
	}
	for _, s := range brokenSchemes() {
		expect(t, "a broken scheme", show(impl.TrimScheme(s)), impl.Scheme{}, impl.ErrInvalid)
	}
}

// TestPromise8FamiliesOfSchemes compares the schemes made of others with the families made of theirs.
func TestPromise8FamiliesOfSchemes(t *testing.T) {
	checked := 0
	rulePairs(func(r, q rule) {
		if r.holders() > 3 {
			return
		}
		s, one := impl.SchemeOfFamily(31, r.family())
		u, two := impl.SchemeOfFamily(31, q.family())
		if one != impl.OK || two != impl.OK {
			return
		}
		checked++
		either, _ := impl.EitherScheme(s, u)
		both, _ := impl.BothScheme(s, u)
		dual, _ := impl.DualScheme(s)
		twice, _ := impl.DualScheme(dual)
		trimmed, _ := impl.TrimScheme(both)
		for _, pair := range []struct {
			s      impl.Scheme
			family func() (impl.Family, int64)
		}{
			{either, func() (impl.Family, int64) { return impl.EitherFamily(r.family(), q.family()) }},
			{both, func() (impl.Family, int64) { return impl.BothFamilies(r.family(), q.family()) }},
			{trimmed, func() (impl.Family, int64) { return impl.BothFamilies(r.family(), q.family()) }},
			{dual, func() (impl.Family, int64) { return impl.DualFamily(r.family()) }},
			{twice, func() (impl.Family, int64) { return r.family(), impl.OK }},
		} {
			f, code := pair.family()
			expect(t, "the family of "+schemeText(pair.s), show(impl.FamilyOfScheme(pair.s)), f, code)
		}
	})
	if checked < 200 {
		t.Errorf("only %d pairs of families have schemes", checked)
	}
}
