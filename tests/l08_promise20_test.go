package tests

import (
	"fmt"
	"slices"
	"testing"

	"loop.example/g01117/impl"
)

// TestPromise20Families opens each family by its gate, by its scheme, by the dual of its dual, and in ceremonies.
func TestPromise20Families(t *testing.T) {
	draw := drawer(90)
	counts := map[string]int{}
	everyRule(func(r rule, f impl.Family) {
		what := show(f)
		dual, one := impl.DualFamily(f)
		again, two := impl.DualFamily(dual)
		expect(t, "the dual of the dual of "+what, show(again, one, two), f, impl.OK, impl.OK)
		g, code := impl.GateOfFamily(f)
		if code != impl.OK {
			counts["without gate"]++
			return
		}
		counts["gate"]++
		checkGateOpens(t, f.Holders, g, r)
		dualGate, _ := impl.DualGate(f.Holders, g)
		twice, code := impl.DualGate(f.Holders, dualGate)
		expect(t, "the dual of the dual gate of "+what, show(code), impl.OK)
		checkGateOpens(t, f.Holders, twice, r)
		s, code := impl.SchemeOfFamily(31, f)
		if code != impl.OK {
			counts["without scheme"]++
			return
		}
		counts["scheme"]++
		checkSchemeOpens(t, draw, s, r, counts)
		// Of a gate with few kids there is a scheme for a smaller prime, too.
		if s, code = impl.SchemeOfFamily(allPrimes()[draw(10)], f); code == impl.OK {
			checkSchemeOpens(t, draw, s, r, counts)
		}
	})
	if counts["gate"] < 250 || counts["scheme"] < 150 || counts["dual of the dual"] < 150 || counts["without gate"] < 8 {
		t.Errorf("counts: %v", counts)
	}
}

func checkGateOpens(t *testing.T, holders int64, g impl.Gate, r rule) {
	t.Helper()
	for mask := range r {
		expect(t, fmt.Sprint("GateOpens of ", textOf(g), members(mask)), show(impl.GateOpens(holders, g, members(mask))), r[mask], impl.OK)
	}
}

// checkSchemeOpens checks who opens a scheme, the dual of its dual, and ceremonies of both.
func checkSchemeOpens(t *testing.T, draw func(int64) int64, s impl.Scheme, r rule, counts map[string]int) {
	t.Helper()
	schemes, least := []impl.Scheme{s}, leastMasks(r)
	if dual, code := impl.DualScheme(s); code == impl.OK {
		twice, code := impl.DualScheme(dual)
		expect(t, "the dual of the dual of "+schemeText(s), show(code), impl.OK)
		schemes = append(schemes, twice)
		counts["dual of the dual"]++
	}
	for _, s := range schemes {
		expect(t, "the family of "+schemeText(s), show(impl.FamilyOfScheme(s)), r.family(), impl.OK)
		d := dealOf(draw, s, 1+draw(4), true)
		for mask := range r {
			expect(t, fmt.Sprint("SchemeOpens of ", schemeText(s), members(mask)), show(impl.SchemeOpens(s, members(mask))), r[mask], impl.OK)
			// Of many holders, only the least groups and some others hold a ceremony.
			if s.Holders <= 4 || draw(8) == 0 || slices.Contains(least, mask) {
				checkGathered(t, d, mask, r)
				checkAmongLiars(t, d, mask, r)
			}
		}
	}
}

// opened is what OpenAfter is to return for a group.
func opened(d impl.Deal, r rule, mask int) []any {
	if r[mask] {
		return []any{d.Secret, impl.OK}
	}
	return []any{0, impl.ErrNotFound}
}

// checkGathered gathers a group, and then again in the last epoch, when something has been left on the wire.
func checkGathered(t *testing.T, d impl.Deal, mask int, r rule) {
	t.Helper()
	list := []impl.Deed{}
	for _, more := range [][]impl.Deed{nil, append(repeat(impl.Deed{Kind: impl.DdRenew}, len(d.Blinds)-1), deeds("give 0", "copy 0", "hand 0")...)} {
		list = append(list, more...)
		plan, code := impl.GatherDeeds(d, list, members(mask))
		list = append(list, plan...)
		c, _, _ := impl.CeremonyAfter(d, list)
		what := fmt.Sprint("a ceremony of ", schemeText(d.Scheme), members(mask))
		expect(t, what, show(code, members(maskWhere(c.Opener.Has)), len(c.Wire)), impl.OK, members(mask), 0)
		expect(t, what, show(impl.OpenAfter(d, list)), opened(d, r, mask)...)
	}
}

// checkAmongLiars lets a group hand its shares while all others lie: those are named, unless they have no rows.
func checkAmongLiars(t *testing.T, d impl.Deal, mask int, r rule) {
	t.Helper()
	list, named := []impl.Deed{}, 0
	for h := range d.Scheme.Holders {
		list = append(list, impl.Deed{Kind: impl.DdGive, A: h}, impl.Deed{Kind: impl.DdCopy, A: h}, impl.Deed{Kind: impl.DdDeliver, A: h})
		if mask>>h&1 == 0 {
			list = append(list, impl.Deed{Kind: impl.DdLie, A: h, B: 1})
			if len(rowsHeldBy(d.Scheme, 1<<h)) > 0 {
				named |= 1 << h
			}
		}
		list = append(list, impl.Deed{Kind: impl.DdHand, A: h})
	}
	list = append(list, repeat(impl.Deed{Kind: impl.DdDeliver}, int(d.Scheme.Holders))...)
	what := fmt.Sprint("a ceremony among liars, of ", schemeText(d.Scheme), members(mask))
	expect(t, what, show(impl.NamedAfter(d, list)), members(named), impl.OK)
	expect(t, what, show(impl.OpenAfter(d, list)), opened(d, r, mask)...)
}

// TestPromise20Gates opens gates of all kinds, and the schemes of those that have one.
func TestPromise20Gates(t *testing.T) {
	draw := drawer(91)
	counts, met := map[string]int{}, 0
	everyGate(func(holders int64, g impl.Gate) {
		if met++; met%10 > 0 {
			return
		}
		r := ruleOfGate(holders, g)
		checkGateOpens(t, holders, g, r)
		expect(t, "the family of "+textOf(g), show(impl.FamilyOfGate(holders, g)), r.family(), impl.OK)
		if s, code := impl.SchemeOfGate(allPrimes()[draw(11)], holders, g); code == impl.OK && len(s.Owners) <= 12 {
			counts["scheme"]++
			checkSchemeOpens(t, draw, s, r, counts)
		}
	})
	if counts["scheme"] < 100 || counts["dual of the dual"] < 100 {
		t.Errorf("counts of %d gates: %v", met, counts)
	}
}

// TestPromise20Thresholds opens curves of all thresholds, which all have ceremonies.
func TestPromise20Thresholds(t *testing.T) {
	draw := drawer(92)
	for holders := int64(1); holders <= impl.MaxHolders; holders++ {
		for least := int64(1); least <= holders; least++ {
			r := newRule(int(holders), func(mask int) bool { return int64(headcount(mask)) >= least })
			s, code := impl.CurveScheme(11, holders, least)
			expect(t, "CurveScheme", show(code), impl.OK)
			expect(t, "ThresholdFamily", show(impl.ThresholdFamily(holders, least)), r.family(), impl.OK)
			counts := map[string]int{}
			checkSchemeOpens(t, draw, s, r, counts)
			expect(t, "duals", show(counts), map[string]int{"dual of the dual": 1})
		}
	}
}

// TestPromise20WithoutGates: what nobody opens, or everybody does, has no gate; no scheme is opened by the empty group.
func TestPromise20WithoutGates(t *testing.T) {
	for holders := int64(1); holders <= impl.MaxHolders; holders++ {
		for _, f := range []impl.Family{nobody(holders), everybody(holders)} {
			_, one := impl.GateOfFamily(f)
			_, two := impl.SchemeOfFamily(7, f)
			expect(t, "codes", show(one, two), impl.ErrState, impl.ErrState)
			dual, _ := impl.DualFamily(f)
			expect(t, "the dual of the dual", show(impl.DualFamily(dual)), f, impl.OK)
			expect(t, "the dual opens just if the family does not", show(len(dual.Groups)), 1-len(f.Groups))
		}
		s := scheme(fmt.Sprintf("scheme %d 7 2\nrow A 0 3\n", holders))
		_, code := impl.DualScheme(s)
		expect(t, "a scheme that nobody opens", show(code), impl.ErrState)
		d := impl.Deal{Scheme: s, Secret: 5, Blinds: [][]int64{{6}}, Keys: [][][]int64{{{1, 1}}}}
		r := newRule(int(holders), func(int) bool { return false })
		expect(t, "its family", show(impl.FamilyOfScheme(s)), nobody(holders), impl.OK)
		for mask := range r {
			checkGathered(t, d, mask, r)
			checkAmongLiars(t, d, mask, r)
		}
	}
}
