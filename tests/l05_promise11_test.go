package tests

import (
	"slices"
	"testing"

	"loop.example/g01117/impl"
)

// everyCurveScheme runs a check for all schemes of curves.
func everyCurveScheme(check func(s impl.Scheme, p, holders, least int64)) {
	for _, p := range allPrimes() {
		for holders := int64(1); holders <= min(p-1, 7); holders++ {
			for least := int64(1); least <= holders; least++ {
				s, code := impl.CurveScheme(p, holders, least)
				if code != impl.OK {
					panic("no scheme of curves")
				}
				check(s, p, holders, least)
			}
		}
	}
}

// pointsIn returns the points of the holders of a group.
func pointsIn(group []int64) []int64 {
	points := []int64{}
	for _, h := range group {
		points = append(points, h+1)
	}
	return points
}

// TestPromise11Shares deals secrets and blinds by the scheme and by the curve that has them as coefficients.
func TestPromise11Shares(t *testing.T) {
	expect(t, "the shares of a scheme", show(impl.SharesOf(curveByDefinition(5, 3, 2), 4, []int64{1})), []int64{0, 1, 2}, impl.OK)
	expect(t, "the shares of a curve", show(impl.DealShares(5, []int64{4, 1}, []int64{1, 2, 3})), sharesAt([]int64{1, 2, 3}, []int64{0, 1, 2}), impl.OK)
	everyCurveScheme(func(s impl.Scheme, p, holders, least int64) {
		draw := drawer(uint64(100*p + 10*holders + least))
		lists := [][]int64{make([]int64, least), unit(least, 0), unit(least, least-1), repeat(p-1, int(least))}
		for range 6 {
			lists = append(lists, someResidues(draw, p, least))
		}
		if powerOf(p, least) <= 125 {
			lists = allLists(p, int(least))
		}
		for _, drawn := range lists {
			what := show(p, holders, least, drawn)
			dealt, code := impl.DealShares(p, withoutZeros(drawn), countTo(holders + 1)[1:])
			expect(t, "DealShares of "+what, show(code), impl.OK)
			expect(t, "SharesOf of "+what, show(impl.SharesOf(s, drawn[0], drawn[1:])), valuesOf(dealt), impl.OK)
			for mask := 1; mask < 1<<holders; mask++ {
				held := sharesHeld(dealt, mask)
				secret, code := impl.Rebuild(s, members(mask), valuesOf(held))
				if int64(len(held)) < least {
					expect(t, "Rebuild of too few of "+what, show(secret, code), 0, impl.ErrNotFound)
					continue
				}
				expect(t, "Rebuild of "+what, show(secret, code), drawn[0], impl.OK)
				expect(t, "OpenAt of "+what, show(impl.OpenAt(p, held, 0)), drawn[0], impl.OK)
				expect(t, "CurveThrough of "+what, show(impl.CurveThrough(p, held)), withoutZeros(drawn), impl.OK)
			}
		}
	})
}

// TestPromise11Elements compares the elements that open a scheme with the weights of the points of the first holders who are enough.
func TestPromise11Elements(t *testing.T) {
	everyCurveScheme(func(s impl.Scheme, p, holders, least int64) {
		for mask := range 1 << holders {
			group := members(mask)
			elements, code := impl.OpeningElements(s, group)
			if int64(len(group)) < least {
				expect(t, "who does not open", show(elements, code), []int64{}, impl.ErrNotFound)
				continue
			}
			weights, none := impl.WeightsFor(p, pointsIn(group[:least]), 0)
			expect(t, "OpeningElements of "+show(p, holders, least, group), show(elements, code), slices.Concat(weights, make([]int64, int64(len(group))-least)), none)
		}
	})
}

// TestPromise11AnyShares compares what the scheme and the curves tell of any shares, most of which are not those of a curve.
func TestPromise11AnyShares(t *testing.T) {
	together, not := 0, 0
	everyCurveScheme(func(s impl.Scheme, p, holders, least int64) {
		draw := drawer(uint64(200*p + 10*holders + least))
		for mask := range 1 << holders {
			group := members(mask)
			points := pointsIn(group)
			shares := sharesOn(p, someResidues(draw, p, least), points)
			if draw(2) == 0 {
				shares = sharesAt(points, someResidues(draw, p, int64(len(group))))
			}
			held, what := valuesOf(shares), show(p, holders, least, shares)
			consistent, one := impl.IsConsistent(s, group, held)
			lies, two := impl.LiesOn(p, shares, least-1)
			expect(t, "IsConsistent of "+what, show(consistent, one), lies, two)
			if lies {
				together++
			} else {
				not++
			}
			counts, code := impl.CountSecrets(p, shares, least-1)
			expect(t, "CountSecrets of "+what, show(code), impl.OK)
			if powerOf(p, least) <= 1000 {
				expect(t, "CasesBySecret of "+what, show(impl.CasesBySecret(s, group, held)), counts, impl.OK)
			}
			for _, secret := range []int64{0, p - 1, draw(p)} {
				blinds, code := impl.Completion(s, group, held, secret)
				expect(t, "Completion of "+what, show(code == impl.OK), counts[secret] > 0)
				if code == impl.OK {
					c := withoutZeros(slices.Concat([]int64{secret}, blinds))
					expect(t, "the completed curve of "+what, show(impl.DealShares(p, c, points)), shares, impl.OK)
				}
			}
		}
	})
	if together < 500 || not < 500 {
		t.Errorf("shares %d times on a curve and %d times not are too few", together, not)
	}
}

// TestPromise11False finds the false share of a holder of a scheme.
func TestPromise11False(t *testing.T) {
	everyCurveScheme(func(s impl.Scheme, p, holders, least int64) {
		if holders < least+2 {
			return
		}
		draw := drawer(uint64(300*p + 10*holders + least))
		drawn := someResidues(draw, p, least)
		values, _ := impl.SharesOf(s, drawn[0], drawn[1:])
		liar := draw(holders)
		shares := changedAt(draw, p, sharesAt(countTo(holders + 1)[1:], values), 1<<liar)
		expect(t, "FalseShares of "+show(p, shares, least-1), show(impl.FalseShares(p, shares, least-1, 1)), withoutZeros(drawn), []int64{liar}, impl.OK)
		_, code := impl.Rebuild(s, countTo(holders), valuesOf(shares))
		expect(t, "all together do not rebuild", show(code), impl.ErrState)
	})
}
