package tests

import (
	"math"
	"slices"
	"strings"
	"testing"

	"loop.example/g01117/impl"
)

func TestPromise7Example(t *testing.T) {
	s, code := impl.CurveScheme(5, 3, 2)
	expect(t, "CurveScheme", show(s, code), schemeOf(3, []int64{0, 1, 2}, matrixOf(5, 2, []int64{1, 1}, []int64{1, 2}, []int64{1, 3})), impl.OK)
	expect(t, "SharesOf", show(impl.SharesOf(s, 4, []int64{1})), []int64{0, 1, 2}, impl.OK)
	expect(t, "OpeningElements", show(impl.OpeningElements(s, []int64{0, 2})), []int64{4, 2}, impl.OK)
	expect(t, "the limit", show(impl.MaxBlindings), 20000)
}

func TestPromise7ValidSchemes(t *testing.T) {
	everyScheme(func(s impl.Scheme) {
		expect(t, "ValidScheme of "+schemeText(s), show(impl.ValidScheme(s)), true)
	})
	for _, s := range brokenSchemes() {
		expect(t, "a broken scheme "+show(s), show(isScheme(s), impl.ValidScheme(s), impl.SchemeText(s)), false, false, "")
	}
	for holders := int64(-1); holders <= 9; holders++ {
		for rows := range 23 {
			for cols := range int64(15) {
				s := schemeOf(holders, repeat(holders-1, rows), matrixOf(31, cols, repeat(repeat(int64(30), int(cols)), rows)...))
				expect(t, "a size", show(impl.ValidScheme(s)), holders >= 1 && holders <= 7 && rows <= 20 && cols >= 1 && cols <= 12)
				if rows > 0 {
					s.Owners[rows-1] = holders
					expect(t, "the last owner is none", show(impl.ValidScheme(s)), false)
					s.Owners = s.Owners[:rows-1]
					expect(t, "an owner is missing", show(impl.ValidScheme(s)), false)
				}
			}
		}
	}
}

func TestPromise7SameScheme(t *testing.T) {
	schemes := append(brokenSchemes(), schemesWith(3, matrixOf(2, 1, []int64{1}, []int64{0}))...)
	for _, s := range smallSchemes() {
		if s.Matrix.Prime == 3 && s.Matrix.Cols == 2 && len(s.Owners) == 1 {
			schemes = append(schemes, s)
		}
	}
	for i, s := range schemes {
		for k, other := range schemes {
			expect(t, "SameScheme of "+show(s, other), show(impl.SameScheme(s, other)), i == k || show(s) == show(other))
		}
	}
	one := func() impl.Scheme { return scheme("scheme 3 5 2\nrow A 1 2\nrow B 3 4\n") }
	changes := []func(s *impl.Scheme){
		func(s *impl.Scheme) { s.Holders = 4 }, func(s *impl.Scheme) { s.Owners[1] = 0 }, func(s *impl.Scheme) { s.Owners = s.Owners[:1] }, func(s *impl.Scheme) { s.Owners = append(s.Owners, 0) },
		func(s *impl.Scheme) { s.Matrix.Prime = 7 }, func(s *impl.Scheme) { s.Matrix.Cols = 3 }, func(s *impl.Scheme) { s.Matrix.Rows[1][1] = 0 }, func(s *impl.Scheme) { s.Matrix.Rows = s.Matrix.Rows[:1] },
	}
	expect(t, "a copy", show(impl.SameScheme(one(), one())), true)
	for i, change := range changes {
		other := one()
		change(&other)
		expect(t, "changed", show(i, impl.SameScheme(one(), other), impl.SameScheme(other, one())), i, false, false)
	}
}

func TestPromise7TextsOfSchemes(t *testing.T) {
	everyScheme(func(s impl.Scheme) {
		text := schemeText(s)
		expect(t, "SchemeText", show(impl.SchemeText(s)), text)
		expect(t, "ReadScheme of "+text, show(impl.ReadScheme(text)), s, impl.OK)
	})
	expect(t, "no rows", show(impl.SchemeText(schemeOf(7, nil, matrixOf(2, 12)))), "scheme 7 2 12\n")
	expect(t, "only the secret", show(impl.SchemeText(schemeOf(3, []int64{2, 0}, matrixOf(11, 1, []int64{10}, []int64{0})))), "scheme 3 11 1\nrow C 10\nrow A 0\n")
	for _, s := range brokenSchemes() {
		expect(t, "ReadScheme of "+schemeTextOf(s), show(impl.ReadScheme(schemeTextOf(s))), impl.Scheme{}, impl.ErrSyntax)
	}
}

// schemeTextOf is schemeText for broken schemes, whose rows may lack owners.
func schemeTextOf(s impl.Scheme) string {
	for len(s.Owners) < len(s.Matrix.Rows) {
		s.Holders, s.Owners = -1, append(slices.Clone(s.Owners), 0)
	}
	if len(s.Owners) > len(s.Matrix.Rows) {
		s.Holders = -1
	}
	return schemeText(s)
}

// TestPromise7NearlyTexts changes, adds and removes each byte of texts.
func TestPromise7NearlyTexts(t *testing.T) {
	const letters = "\n\r\t ,-+x.rowschemABCGHa0123456789\x00\xff"
	found := 0
	for _, text := range []string{"scheme 1 2 1\n", "scheme 3 5 2\nrow A 1 2\nrow B 4 0\n", "scheme 7 31 1\nrow G 30\nrow A 0\nrow A 1\n", "scheme 2 13 12\n", "scheme 3 7 3\nrow C 6 5 4\n"} {
		nearly := []string{text, text + text, text + "\n", "\n" + text, strings.ToUpper(text), strings.TrimSuffix(text, "\n"), strings.ReplaceAll(text, "\n", "\r\n"), strings.ReplaceAll(text, " ", "  "), strings.ReplaceAll(text, "\n", " \n")}
		for _, near := range append(nearly, nearlyTexts(text, letters)...) {
			if s, ok := schemeWithText(near); ok {
				found++
				expect(t, "ReadScheme of "+near, show(impl.ReadScheme(near)), s, impl.OK)
			} else {
				expect(t, "ReadScheme of "+near, show(impl.ReadScheme(near)), impl.Scheme{}, impl.ErrSyntax)
			}
		}
	}
	if found < 200 {
		t.Errorf("only %d of the texts are of schemes", found)
	}
}

func TestPromise7TextsThatAreNone(t *testing.T) {
	for _, text := range []string{"", "\n", " ", "scheme", "scheme\n", "scheme 3\n", "scheme 3 5\n", "scheme 3 5 2", "scheme 3 5 2 \n", " scheme 3 5 2\n", "scheme  3 5 2\n", "scheme 3 5 2 1\n", "scheme 3 5 2\n\n", "scheme 3 5 2\nrow A 1 2",
		"scheme 3 5 2\nrow A 1\n", "scheme 3 5 2\nrow A 1 2 3\n", "scheme 3 5 2\nrow A\n", "scheme 3 5 2\nrow A \n", "scheme 3 5 2\nrow \n", "scheme 3 5 2\nrow\n", "scheme 3 5 2\nrow 1 2\n", "scheme 3 5 2\nrow  1 2\n", "scheme 3 5 2\nrow D 1 2\n", "scheme 3 5 2\nrow AB 1 2\n", "scheme 3 5 2\nrow a 1 2\n",
		"scheme 3 5 2\nrow 0 1 2\n", "scheme 3 5 2\nrow - 1 2\n", "scheme 3 5 2\nrow @ 1 2\n", "scheme 3 5 2\nrow A 1 5\n", "scheme 3 5 2\nrow A 1 -1\n", "scheme 3 5 2\nrow A 01 1\n", "scheme 3 5 2\nrow A +1 1\n", "scheme 3 5 2\nrow A 1 x\n", "scheme 3 5 2\nrow A 1 \n", "scheme 3 5 2\nA 1 2\n", "scheme 3 5 2\nrow row A 1 2\n",
		"scheme 3 5 2\nrows A 1 2\n", "scheme 3 5 2\nrow A 1, 2\n", "scheme 3 5 2\nrow A\t1 2\n", "scheme 3 5 2\nROW A 1 2\n", "Scheme 3 5 2\n", "matrix 5 2\n", "matrix 3 5 2\n", "scheme 3 5 2\nscheme 3 5 2\n", "scheme 3 5 0\n", "scheme 3 5 0\nrow A\n", "scheme 3 5 1\n\n", "scheme 8 5 1\nrow H 1\n", "scheme 7 5 1\nrow H 1\n",
		"scheme 0 5 1\n", "scheme 8 5 1\n", "scheme -1 5 1\n", "scheme 03 5 1\n", "scheme 3 4 1\n", "scheme 3 1 1\n", "scheme 3 37 1\n", "scheme 3 05 1\n", "scheme 3 5 13\n", "scheme 3 5 -1\n", "scheme x 5 1\n", "scheme 3 x 1\n", "scheme 3 5 x\n", "scheme \u0663 5 1\n",
		"scheme 9223372036854775808 5 1\n", "scheme 18446744073709551619 5 1\n", "scheme 3 18446744073709551621 1\n", "scheme 3 5 18446744073709551617\n", "scheme 3 5 1\nrow A 18446744073709551617\n", "row A 1 2\n", "\xff", "scheme 3 5 2\nrow \xff 1 2\n", "scheme 3 5 2\x00\n", "scheme 3 5 1\r\nrow A 1\r\n", "scheme 3 5 1\nrow \u0410 1\n"} {
		expect(t, "ReadScheme of "+text, show(impl.ReadScheme(text)), impl.Scheme{}, impl.ErrSyntax)
	}
}

func TestPromise7TextLimits(t *testing.T) {
	head := "scheme 7 31 12\n"
	line := "row G" + strings.Repeat(" 30", 12) + "\n"
	expect(t, "20 rows", show(impl.ReadScheme(head+strings.Repeat(line, 20))), schemeOf(7, repeat(int64(6), 20), matrixOf(31, 12, repeat(repeat(int64(30), 12), 20)...)), impl.OK)
	expect(t, "21 rows", show(impl.ReadScheme(head+strings.Repeat(line, 21))), impl.Scheme{}, impl.ErrSyntax)
	expect(t, "13 columns", show(impl.ReadScheme("scheme 7 31 13\nrow A"+strings.Repeat(" 30", 13)+"\n")), impl.Scheme{}, impl.ErrSyntax)
	for _, begin := range []string{"", head, head + line, "scheme "} {
		for _, part := range []string{"x", "\n", "1", " ", "\x00"} {
			expect(t, "4000 bytes", show(impl.ReadScheme(begin+strings.Repeat(part, 4000-len(begin)))), impl.Scheme{}, impl.ErrSyntax)
			expect(t, "4001 bytes", show(impl.ReadScheme(begin+strings.Repeat(part, 4001-len(begin)))), impl.Scheme{}, impl.ErrRange)
		}
	}
}

func TestPromise7WhoOpens(t *testing.T) {
	opening, not := 0, 0
	everyScheme(func(s impl.Scheme) {
		r, text := ruleOfScheme(s), schemeText(s)
		expect(t, "FamilyOfScheme of "+text, show(impl.FamilyOfScheme(s)), r.family(), impl.OK)
		sizes := make([]int64, s.Holders)
		for mask := range r {
			group, rows := members(mask), rowsHeldBy(s, mask)
			expect(t, "RowsHeld of "+text, show(impl.RowsHeld(s, group)), rows, impl.OK)
			expect(t, "SchemeOpens of "+text, show(impl.SchemeOpens(s, group)), r[mask], impl.OK)
			if len(group) == 1 {
				sizes[group[0]] = int64(len(rows))
			}
			elements, code := impl.OpeningElements(s, group)
			if !r[mask] {
				not++
				expect(t, "OpeningElements of "+text, show(elements, code), []int64{}, impl.ErrNotFound)
				continue
			}
			opening++
			expect(t, "OpeningElements of "+text+show(group, elements), show(code, isCombination(matrixHeldBy(s, mask), unit(s.Matrix.Cols, 0), elements)), impl.OK, true)
		}
		expect(t, "SizesOf of "+text, show(impl.SizesOf(s)), sizes, impl.OK)
		for _, group := range brokenGroups(s.Holders) {
			expect(t, "RowsHeld", show(impl.RowsHeld(s, group)), []int64{}, impl.ErrRange)
			expect(t, "SchemeOpens", show(impl.SchemeOpens(s, group)), false, impl.ErrRange)
			expect(t, "OpeningElements", show(impl.OpeningElements(s, group)), []int64{}, impl.ErrRange)
		}
	})
	if opening < 1000 || not < 1000 {
		t.Errorf("%d groups that open a scheme and %d that do not are too few", opening, not)
	}
}

// TestPromise7Shares gives the shares of secrets and blinds to all groups.
func TestPromise7Shares(t *testing.T) {
	draw := drawer(70)
	everyScheme(func(s impl.Scheme) {
		text := schemeText(s)
		for _, drawn := range trialTargets(draw, s.Matrix.Prime, int(s.Matrix.Cols), nil) {
			shares := sharesBy(s.Matrix, drawn)
			expect(t, "SharesOf of "+text+show(drawn), show(impl.SharesOf(s, drawn[0], drawn[1:])), shares, impl.OK)
			for mask, opens := range ruleOfScheme(s) {
				if mask != 1<<s.Holders-1 && draw(10) > 0 {
					continue
				}
				held := sharesBy(matrixHeldBy(s, mask), drawn)
				expect(t, "IsConsistent of "+text+show(held), show(impl.IsConsistent(s, members(mask), held)), true, impl.OK)
				if !opens {
					expect(t, "Rebuild of "+text+show(held), show(impl.Rebuild(s, members(mask), held)), 0, impl.ErrNotFound)
					continue
				}
				expect(t, "Rebuild of "+text+show(held), show(impl.Rebuild(s, members(mask), held)), drawn[0], impl.OK)
				elements, _ := impl.OpeningElements(s, members(mask))
				expect(t, "the sum of products", show(dot(s.Matrix.Prime, elements, held)), drawn[0])
			}
		}
	})
}

func TestPromise7ShareErrors(t *testing.T) {
	everyScheme(func(s impl.Scheme) {
		p, blinds := s.Matrix.Prime, make([]int64, s.Matrix.Cols-1)
		for _, none := range []int64{math.MinInt64, -1, p, p + 1, math.MaxInt64} {
			expect(t, "a secret that is none", show(impl.SharesOf(s, none, blinds)), []int64{}, impl.ErrRange)
			for i := range blinds {
				blinds[i] = none
				expect(t, "a blind that is none", show(impl.SharesOf(s, 0, blinds)), []int64{}, impl.ErrRange)
				blinds[i] = 0
			}
		}
		expect(t, "a blind too many", show(impl.SharesOf(s, p-1, append(blinds, 0))), []int64{}, impl.ErrRange)
		if len(blinds) > 0 {
			expect(t, "a blind too few", show(impl.SharesOf(s, 0, blinds[1:])), []int64{}, impl.ErrRange)
		}
	})
	expect(t, "no blinds", show(impl.SharesOf(scheme("scheme 2 5 1\nrow B 3\nrow B 0\nrow A 1\n"), 4, nil)), []int64{2, 0, 4}, impl.OK)
	expect(t, "no rows", show(impl.SharesOf(scheme("scheme 2 5 3\n"), 4, []int64{1, 2})), []int64{}, impl.OK)
}

// TestPromise7AllShares checks for all shares that small schemes can and cannot have from which secrets they come.
func TestPromise7AllShares(t *testing.T) {
	schemes := smallSchemes()
	for _, s := range someSchemes() {
		if countLists(s) <= 400 {
			schemes = append(schemes, s)
		}
	}
	for _, s := range schemes {
		for mask, opens := range ruleOfScheme(s) {
			m := matrixHeldBy(s, mask)
			book := casesBy(m)
			checkCasebook(t, s, mask, opens, book)
			if math.Pow(float64(m.Prime), float64(len(m.Rows))) > 200 {
				continue
			}
			for _, held := range allLists(m.Prime, len(m.Rows)) {
				checkHeld(t, s, mask, opens, held, book.of(m.Prime, held))
			}
		}
	}
}

// checkCasebook checks that shares tell the secret or nothing.
func checkCasebook(t *testing.T, s impl.Scheme, mask int, opens bool, book casebook) {
	t.Helper()
	for held, cases := range book {
		possible := len(secrets(cases))
		if opens && possible != 1 || !opens && slices.Min(cases) != slices.Max(cases) {
			t.Errorf("the shares %s of %v of %s come from %d secrets: %v", held, members(mask), schemeText(s), possible, cases)
		}
	}
}

// checkHeld checks all functions of shares that a group holds, with the cases for each secret.
func checkHeld(t *testing.T, s impl.Scheme, mask int, opens bool, held, cases []int64) {
	t.Helper()
	group, what := members(mask), schemeText(s)+show(members(mask), held)
	possible := secrets(cases)
	expect(t, "IsConsistent of "+what, show(impl.IsConsistent(s, group, held)), len(possible) > 0, impl.OK)
	expect(t, "CasesBySecret of "+what, show(impl.CasesBySecret(s, group, held)), cases, impl.OK)
	wanted, code := int64(0), int64(impl.OK)
	switch {
	case !opens:
		code = impl.ErrNotFound
	case len(possible) == 0:
		code = impl.ErrState
	default:
		wanted = possible[0]
	}
	expect(t, "Rebuild of "+what, show(impl.Rebuild(s, group, held)), wanted, code)
	for secret := range s.Matrix.Prime {
		checkCompletion(t, s, mask, held, secret, cases[secret] > 0)
	}
}

// checkCompletion checks the blinds that are found for a secret and shares.
func checkCompletion(t *testing.T, s impl.Scheme, mask int, held []int64, secret int64, possible bool) {
	t.Helper()
	what := "Completion of " + schemeText(s) + show(members(mask), held, secret)
	blinds, code := impl.Completion(s, members(mask), held, secret)
	if !possible {
		expect(t, what, show(blinds, code), []int64{}, impl.ErrNotFound)
		return
	}
	m := matrixHeldBy(s, mask)
	m.Rows = append(m.Rows, unit(m.Cols, 0))
	expect(t, what+show(blinds), show(code, isSolution(m, slices.Concat(held, []int64{secret}), slices.Concat([]int64{secret}, blinds))), impl.OK, true)
}

// TestPromise7LargeShares checks shares of larger schemes, some of them changed, with all holders and with some.
func TestPromise7LargeShares(t *testing.T) {
	good, bad, changed := 0, 0, 0
	for _, s := range someSchemes() {
		draw := drawer(uint64(s.Matrix.Prime * s.Matrix.Cols))
		drawn := []int64{}
		for range s.Matrix.Cols {
			drawn = append(drawn, draw(s.Matrix.Prime))
		}
		r := ruleOfScheme(s)
		for _, mask := range []int{len(r) - 1, int(draw(int64(len(r)))), int(draw(int64(len(r)))), 0} {
			m := matrixHeldBy(s, mask)
			held := sharesBy(m, drawn)
			for secret := range s.Matrix.Prime {
				// Any other secret can have given these shares, too, unless the group opens.
				checkCompletion(t, s, mask, held, secret, secret == drawn[0] || !r[mask])
			}
			if len(held) == 0 {
				continue
			}
			at := draw(int64(len(held)))
			held[at] = (held[at] + 1 + draw(s.Matrix.Prime-1)) % s.Matrix.Prime
			span, _ := spanOf(m.Prime, columns(m))
			consistent := span.has(held)
			expect(t, "changed shares", show(impl.IsConsistent(s, members(mask), held)), consistent, impl.OK)
			_, code := impl.Rebuild(s, members(mask), held)
			switch {
			case !r[mask]:
				expect(t, "who does not open", show(code), impl.ErrNotFound)
			case consistent:
				good++
				expect(t, "a false secret", show(code), impl.OK)
			default:
				bad++
				expect(t, "not consistent", show(code), impl.ErrState)
				checkCompletion(t, s, mask, held, drawn[0], false)
			}
			changed++
		}
	}
	if good < 10 || bad < 10 || changed < 500 {
		t.Errorf("of %d changed shares, %d that are consistent and %d that are not are too few", changed, good, bad)
	}
}

// TestPromise7HeldErrors gives lists that are no shares of a group, and groups that are none.
func TestPromise7HeldErrors(t *testing.T) {
	everyScheme(func(s impl.Scheme) {
		for _, mask := range []int{0, 1, 1<<s.Holders - 2, 1<<s.Holders - 1} {
			group, held := members(mask), make([]int64, len(rowsHeldBy(s, mask)))
			checkHeldRefused(t, s, group, append(slices.Clone(held), 0), impl.ErrRange)
			if len(held) > 0 {
				checkHeldRefused(t, s, group, held[1:], impl.ErrRange)
				checkHeldRefused(t, s, group, nil, impl.ErrRange)
			}
			for i := range held {
				for _, none := range []int64{math.MinInt64, -1, s.Matrix.Prime, math.MaxInt64} {
					held[i] = none
					checkHeldRefused(t, s, group, held, impl.ErrRange)
					held[i] = 0
				}
			}
			for _, none := range []int64{math.MinInt64, -1, s.Matrix.Prime, math.MaxInt64} {
				expect(t, "a secret that is none", show(impl.Completion(s, group, held, none)), []int64{}, impl.ErrRange)
			}
		}
		for _, group := range brokenGroups(s.Holders) {
			checkHeldRefused(t, s, group, nil, impl.ErrRange)
			checkHeldRefused(t, s, group, make([]int64, len(s.Owners)), impl.ErrRange)
		}
	})
}

func checkHeldRefused(t *testing.T, s impl.Scheme, group, held []int64, code int64) {
	t.Helper()
	what := " of " + show(s, group, held)
	expect(t, "Rebuild"+what, show(impl.Rebuild(s, group, held)), 0, code)
	expect(t, "IsConsistent"+what, show(impl.IsConsistent(s, group, held)), false, code)
	expect(t, "CasesBySecret"+what, show(impl.CasesBySecret(s, group, held)), []int64{}, code)
	expect(t, "Completion"+what, show(impl.Completion(s, group, held, 0)), []int64{}, code)
}

// TestPromise7OrderOfErrors gives arguments with several faults.
func TestPromise7OrderOfErrors(t *testing.T) {
	s := scheme("scheme 3 5 7\nrow A 1 1 0 0 0 0 0\nrow A 1 1 0 0 0 0 0\nrow B 1 2 0 0 0 0 0\nrow C 0 0 1 0 0 0 0\n")
	expect(t, "does not open, not consistent", show(impl.Rebuild(s, []int64{0}, []int64{1, 2})), 0, impl.ErrNotFound)
	expect(t, "opens, not consistent", show(impl.Rebuild(s, []int64{0, 1}, []int64{1, 2, 0})), 0, impl.ErrState)
	expect(t, "opens", show(impl.Rebuild(s, []int64{0, 1}, []int64{1, 1, 0})), 2, impl.OK)
	expect(t, "does not open, too few shares", show(impl.Rebuild(s, []int64{0}, []int64{1})), 0, impl.ErrRange)
	expect(t, "no group, and too many lists", show(impl.CasesBySecret(s, []int64{3}, nil)), []int64{}, impl.ErrRange)
	expect(t, "no shares, and too many lists", show(impl.CasesBySecret(s, []int64{0}, []int64{0, 5})), []int64{}, impl.ErrRange)
	expect(t, "too many lists", show(impl.CasesBySecret(s, []int64{0}, []int64{0, 4})), []int64{}, impl.ErrLimit)
	expect(t, "not consistent, no secret", show(impl.Completion(s, []int64{0}, []int64{1, 2}, 5)), []int64{}, impl.ErrRange)
	expect(t, "not consistent", show(impl.Completion(s, []int64{0}, []int64{1, 2}, 4)), []int64{}, impl.ErrNotFound)
	expect(t, "another secret", show(impl.Completion(s, []int64{0, 1}, []int64{1, 1, 0}, 3)), []int64{}, impl.ErrNotFound)
	expect(t, "the secret", show(impl.Completion(s, []int64{0, 1}, []int64{1, 1, 0}, 2)), []int64{4, 0, 0, 0, 0, 0}, impl.OK)
	for _, s := range brokenSchemes() {
		for _, list := range [][]int64{nil, {0}, {9}, {1, 0}} {
			checkHeldRefused(t, s, list, list, impl.ErrInvalid)
			expect(t, "RowsHeld", show(impl.RowsHeld(s, list)), []int64{}, impl.ErrInvalid)
			expect(t, "SchemeOpens", show(impl.SchemeOpens(s, list)), false, impl.ErrInvalid)
			expect(t, "OpeningElements", show(impl.OpeningElements(s, list)), []int64{}, impl.ErrInvalid)
			expect(t, "SharesOf", show(impl.SharesOf(s, 0, list)), []int64{}, impl.ErrInvalid)
			expect(t, "SharesOf", show(impl.SharesOf(s, -1, list)), []int64{}, impl.ErrInvalid)
			expect(t, "Completion", show(impl.Completion(s, list, list, -1)), []int64{}, impl.ErrInvalid)
		}
		expect(t, "FamilyOfScheme", show(impl.FamilyOfScheme(s)), impl.Family{}, impl.ErrInvalid)
		expect(t, "SizesOf", show(impl.SizesOf(s)), []int64{}, impl.ErrInvalid)
	}
}

// TestPromise7CaseLimits has for each prime as many columns as are still counted, and one more.
func TestPromise7CaseLimits(t *testing.T) {
	for _, p := range allPrimes() {
		for cols := int64(1); cols <= 12; cols++ {
			row := repeat(p-1, int(cols))
			s := schemeOf(1, []int64{0}, matrixOf(p, cols, row))
			lists := countLists(s)
			if lists > impl.MaxBlindings {
				expect(t, "too many lists", show(impl.CasesBySecret(s, []int64{0}, []int64{1})), []int64{}, impl.ErrLimit)
				expect(t, "too many lists for nobody", show(impl.CasesBySecret(s, nil, nil)), []int64{}, impl.ErrLimit)
				continue
			}
			each := int64(lists) / p
			expect(t, "the cases of no shares", show(impl.CasesBySecret(s, nil, nil)), repeat(each, int(p)), impl.OK)
			wanted := repeat(each/p, int(p))
			if cols == 1 {
				wanted = unit(p, p-1) // The share is the negative secret.
			}
			expect(t, "the cases of a share", show(impl.CasesBySecret(s, []int64{0}, []int64{1})), wanted, impl.OK)
		}
	}
	most := scheme("scheme 2 3 9\n")
	expect(t, "19683 lists", show(impl.CasesBySecret(most, []int64{0, 1}, nil)), repeat(6561, 3), impl.OK)
}

// TestPromise7TwentyShares needs a row more than a matrix may have.
func TestPromise7TwentyShares(t *testing.T) {
	s := schemeOf(1, make([]int64, 20), matrixOf(7, 2, repeat([]int64{3, 1}, 20)...))
	held := repeat(int64(5), 20)
	for secret := range int64(7) {
		blind := (5 + 4*secret) % 7 // 3 * secret + blind is 5.
		expect(t, "Completion", show(impl.Completion(s, []int64{0}, held, secret)), []int64{blind}, impl.OK)
	}
	held[19] = 4
	expect(t, "the last share differs", show(impl.Completion(s, []int64{0}, held, 1)), []int64{}, impl.ErrNotFound)
	expect(t, "it is not consistent", show(impl.IsConsistent(s, []int64{0}, held)), false, impl.OK)
	expect(t, "no case has it", show(impl.CasesBySecret(s, []int64{0}, held)), repeat(0, 7), impl.OK)
}

// TestPromise7Nothing has schemes without rows, or with the column of the secret alone.
func TestPromise7Nothing(t *testing.T) {
	for holders := int64(1); holders <= 7; holders++ {
		for cols := int64(1); cols <= 12; cols++ {
			s := schemeOf(holders, nil, matrixOf(3, cols))
			expect(t, "who opens without rows", show(impl.FamilyOfScheme(s)), nobody(holders), impl.OK)
			expect(t, "no shares are consistent", show(impl.IsConsistent(s, countTo(holders), nil)), true, impl.OK)
			expect(t, "Rebuild", show(impl.Rebuild(s, countTo(holders), nil)), 0, impl.ErrNotFound)
			expect(t, "Completion", show(impl.Completion(s, countTo(holders), nil, 2)), make([]int64, cols-1), impl.OK)
			expect(t, "SizesOf", show(impl.SizesOf(s)), make([]int64, holders), impl.OK)
		}
		alone := schemeOf(holders, []int64{holders - 1, 0}, matrixOf(3, 1, []int64{2}, []int64{0}))
		expect(t, "one share is enough", show(impl.FamilyOfScheme(alone)), family(holders, []int64{holders - 1}), impl.OK)
		expect(t, "Rebuild", show(impl.Rebuild(alone, countTo(holders), []int64{1, 0})), 2, impl.OK)
		expect(t, "a share that cannot be", show(impl.Rebuild(alone, countTo(holders), []int64{1, 1})), 0, impl.ErrState)
		expect(t, "Completion", show(impl.Completion(alone, countTo(holders), []int64{1, 0}, 2)), []int64{}, impl.OK)
		expect(t, "Completion", show(impl.Completion(alone, countTo(holders), []int64{1, 0}, 1)), []int64{}, impl.ErrNotFound)
	}
}

// TestPromise7SharedFamilies cuts a secret for each family that has a scheme, and gives the shares to all groups.
func TestPromise7SharedFamilies(t *testing.T) {
	draw, shared := drawer(71), 0
	everyRule(func(r rule, f impl.Family) {
		s, code := impl.SchemeOfFamily(31, f)
		if code != impl.OK {
			return
		}
		shared++
		secret, blinds := draw(31), []int64{}
		for range s.Matrix.Cols - 1 {
			blinds = append(blinds, draw(31))
		}
		shares, _ := impl.SharesOf(s, secret, blinds)
		for mask, opens := range r {
			rows, _ := impl.RowsHeld(s, members(mask))
			held := []int64{}
			for _, i := range rows {
				held = append(held, shares[i])
			}
			if opens {
				expect(t, "Rebuild", show(impl.Rebuild(s, members(mask), held)), secret, impl.OK)
				continue
			}
			for _, other := range []int64{0, 30, draw(31)} {
				otherBlinds, code := impl.Completion(s, members(mask), held, other)
				again, _ := impl.SharesOf(s, other, otherBlinds)
				expect(t, "the code of Completion", show(code), impl.OK)
				for k, i := range rows {
					expect(t, "a share from another secret", show(again[i]), held[k])
				}
			}
		}
	})
	if shared < 100 {
		t.Errorf("only %d families have schemes", shared)
	}
}
