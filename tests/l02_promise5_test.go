package tests

import (
	"slices"
	"testing"

	"loop.example/g01117/impl"
)

func TestPromise5Example(t *testing.T) {
	f, code := impl.FamilyOfGate(4, gate("2(A, B, 1(C, D))"))
	expect(t, "FamilyOfGate", show(code), impl.OK)
	expect(t, "FindWeights", show(impl.FindWeights(f)), []int64{2, 2, 1, 1}, 3, impl.OK)
	expect(t, "ModulesOf", show(impl.ModulesOf(f)), [][]int64{{0}, {0, 1, 2, 3}, {1}, {2}, {2, 3}, {3}}, impl.OK)
}

// weighed is what FindWeights is to return.
type weighed struct {
	weights []int64
	quota   int64
}

// allWeighed tries all weights and quotas in their order, and returns the first ones of each family, by the groups that open it as bits.
func allWeighed(holders int) map[uint32]weighed {
	found := map[uint32]weighed{}
	weights := make([]int64, holders)
	for {
		sums := newSums(weights)
		for quota := range sums[len(sums)-1] + 2 {
			opening := uint32(0)
			for mask, sum := range sums {
				if sum >= quota {
					opening |= 1 << mask
				}
			}
			if _, known := found[opening]; !known {
				found[opening] = weighed{slices.Clone(weights), quota}
			}
		}
		at := holders - 1
		for at >= 0 && weights[at] == 8 {
			weights[at] = 0
			at--
		}
		if at < 0 {
			return found
		}
		weights[at]++
	}
}

func (r rule) bits() uint32 {
	bits := uint32(0)
	for mask, opens := range r {
		if opens {
			bits |= 1 << mask
		}
	}
	return bits
}

func TestPromise5Weights(t *testing.T) {
	for holders := 1; holders <= 5; holders++ {
		found := allWeighed(holders)
		rules := append(someRules(holders, 60), weightedRules(holders, found)...)
		if holders <= 4 {
			rules = allRules(holders)
		}
		for _, r := range rules {
			f := r.family()
			want, ok := found[r.bits()]
			if !ok {
				expect(t, "FindWeights of "+show(f), show(impl.FindWeights(f)), []int64{}, 0, impl.ErrNotFound)
				continue
			}
			expect(t, "FindWeights of "+show(f), show(impl.FindWeights(f)), want.weights, want.quota, impl.OK)
			expect(t, "the family of these weights", show(impl.WeightedFamily(want.weights, want.quota)), f, impl.OK)
		}
	}
}

// weightedRules returns some of the rules that have weights.
func weightedRules(holders int, found map[uint32]weighed) []rule {
	var keys []uint32
	for bits := range found {
		keys = append(keys, bits)
	}
	slices.Sort(keys)
	var rules []rule
	for i := 0; i < len(keys); i += 1 + len(keys)/300 {
		rules = append(rules, newRule(holders, func(mask int) bool { return keys[i]>>mask&1 == 1 }))
	}
	return rules
}

func TestPromise5WeightsOfSome(t *testing.T) {
	for holders := int64(1); holders <= 5; holders++ {
		expect(t, "nobody", show(impl.FindWeights(nobody(holders))), make([]int64, holders), 1, impl.OK)
		expect(t, "everybody", show(impl.FindWeights(everybody(holders))), make([]int64, holders), 0, impl.OK)
		expect(t, "all together", show(impl.FindWeights(family(holders, countTo(holders)))), repeat(int64(1), int(holders)), holders, impl.OK)
		expect(t, "the last one", show(impl.FindWeights(family(holders, []int64{holders - 1}))), append(make([]int64, holders-1), 1), 1, impl.OK)
	}
	for _, f := range []impl.Family{family(4, []int64{0, 1}, []int64{2, 3}), family(5, []int64{0, 2}, []int64{1, 4}), family(4, []int64{0, 1}, []int64{1, 2}, []int64{2, 3})} {
		expect(t, "no weights", show(impl.FindWeights(f)), []int64{}, 0, impl.ErrNotFound)
	}
}

func TestPromise5WeightErrors(t *testing.T) {
	for _, f := range append(brokenFamilies(), family(6, []int64{1}, []int64{0}), family(7, []int64{7})) {
		expect(t, "a broken family", show(impl.FindWeights(f)), []int64{}, 0, impl.ErrInvalid)
	}
	for _, f := range []impl.Family{nobody(6), everybody(6), nobody(7), everybody(7), family(6, countTo(6)), family(7, []int64{0, 1}, []int64{2, 3})} {
		expect(t, "more than 5 holders", show(impl.FindWeights(f)), []int64{}, 0, impl.ErrLimit)
	}
}

// isModuleByDefinition looks for a family of the holders of the group with which each group of the others does one of the three things.
func isModuleByDefinition(r rule, group int) bool {
	if group == 0 {
		return false
	}
	for _, own := range allRules(len(members(group))) {
		if isFamilyOfModule(r, group, own) {
			return true
		}
	}
	return false
}

func isFamilyOfModule(r rule, group int, own rule) bool {
	for others := range r {
		if others&group != 0 {
			continue
		}
		never, always, decides := true, true, true
		for part, opens := range own {
			together := r[others|spreadOver(part, group)]
			never = never && !together
			always = always && together
			decides = decides && together == opens
		}
		if !never && !always && !decides {
			return false
		}
	}
	return true
}

// spreadOver returns the holders of a group that have the numbers of a mask among them.
func spreadOver(mask, group int) int {
	spread := 0
	for i, h := range members(group) {
		spread |= mask >> i & 1 << h
	}
	return spread
}

// mattering returns, without the definition's family, whether parts of a group do the same wherever they matter.
func mattering(r rule, group int) bool {
	seen := map[string]bool{}
	for others := range r {
		if others&group != 0 || r[others] == r[others|group] {
			continue
		}
		key := ""
		for part := range 1 << len(members(group)) {
			key += show(r[others|spreadOver(part, group)])
		}
		seen[key] = true
	}
	return group != 0 && len(seen) <= 1
}

func TestPromise5Modules(t *testing.T) {
	everyModuleRule(func(r rule, f impl.Family) {
		is := func(mask int) bool { return mattering(r, mask) }
		for mask := range r {
			if r.holders() <= 4 && isModuleByDefinition(r, mask) != is(mask) {
				t.Fatalf("the tests do not agree on the module %b of %v", mask, r)
			}
			expect(t, "IsModule of "+show(f, members(mask)), show(impl.IsModule(f, members(mask))), is(mask), impl.OK)
		}
		expect(t, "ModulesOf "+show(f), show(impl.ModulesOf(f)), r.lists(is), impl.OK)
	})
}

// everyModuleRule runs a check for the rules of everyRule, and for rules with modules of up to 7 holders.
func everyModuleRule(check func(r rule, f impl.Family)) {
	everyRule(check)
	for holders := int64(4); holders <= 7; holders++ {
		for _, g := range someGates(holders, 15) {
			r := ruleOfGate(holders, g)
			check(r, r.family())
		}
	}
	for _, text := range []string{"2(A, B, 1(C, 2(D, E, F, G)))", "1(2(A, D), 2(B, E), 2(C, F))", "2(1(A, B), 1(C, D), 1(E, F), G)", "2(A, 2(B, C, D))", "1(A, 2(C, F))", "3(F, E, 1(A, B, G), 2(C, D))"} {
		r := ruleOfGate(7, gate(text))
		check(r, r.family())
	}
}

func TestPromise5TakenOutAndPutBack(t *testing.T) {
	everyModuleRule(func(r rule, f impl.Family) {
		for mask := range r {
			if mattering(r, mask) {
				checkModule(t, r, f, mask)
			} else {
				expect(t, "ModuleFamily of "+show(f, members(mask)), show(impl.ModuleFamily(f, members(mask))), impl.Family{}, impl.ErrState)
				expect(t, "OuterFamily of "+show(f, members(mask)), show(impl.OuterFamily(f, members(mask))), impl.Family{}, impl.ErrState)
			}
		}
	})
}

// checkModule checks the families of a module and around it, and that one put into the other is the family as it was.
func checkModule(t *testing.T, r rule, f impl.Family, module int) {
	t.Helper()
	what, group, others := " of "+show(f, members(module)), members(module), len(r)-1-module
	inner := newRule(len(group), func(mask int) bool {
		for x := range r {
			if x&module == 0 && !r[x] && r[x|spreadOver(mask, module)] {
				return true
			}
		}
		return false
	})
	last := len(members(others))
	outer := newRule(last+1, func(mask int) bool {
		return r[spreadOver(mask&(1<<last-1), others)|mask>>last*module]
	})
	expect(t, "ModuleFamily"+what, show(impl.ModuleFamily(f, group)), inner.family(), impl.OK)
	expect(t, "OuterFamily"+what, show(impl.OuterFamily(f, group)), outer.family(), impl.OK)
	m, _ := impl.ModuleFamily(f, group)
	o, _ := impl.OuterFamily(f, group)
	renamed, _ := impl.RenameHolders(f, slices.Concat(members(others), group))
	expect(t, "put back the module"+what, show(impl.PutFamily(o, int64(last), m)), renamed, impl.OK)
}

// TestPromise5WhatIsAlwaysOpen has modules whose parts do not matter to some groups, which open always, or to any.
func TestPromise5WhatIsAlwaysOpen(t *testing.T) {
	f := family(4, []int64{0}, []int64{1, 2}, []int64{1, 3})
	expect(t, "IsModule", show(impl.IsModule(f, []int64{2, 3})), true, impl.OK)
	expect(t, "ModuleFamily", show(impl.ModuleFamily(f, []int64{2, 3})), family(2, []int64{0}, []int64{1}), impl.OK)
	expect(t, "OuterFamily", show(impl.OuterFamily(f, []int64{2, 3})), family(3, []int64{0}, []int64{1, 2}), impl.OK)
	expect(t, "a module of others", show(impl.ModuleFamily(f, []int64{1, 2, 3})), family(3, []int64{0, 1}, []int64{0, 2}), impl.OK)
	unneeded := family(4, []int64{1})
	expect(t, "holders that are not needed", show(impl.IsModule(unneeded, []int64{0, 2, 3})), true, impl.OK)
	expect(t, "holders that are not needed", show(impl.ModuleFamily(unneeded, []int64{0, 2, 3})), nobody(3), impl.OK)
	expect(t, "holders that are not needed", show(impl.OuterFamily(unneeded, []int64{0, 2, 3})), family(2, []int64{0}), impl.OK)
	expect(t, "with one that is needed", show(impl.ModuleFamily(unneeded, []int64{0, 1})), family(2, []int64{1}), impl.OK)
	different := family(4, []int64{0, 2}, []int64{1, 3})
	expect(t, "different parts matter", show(impl.IsModule(different, []int64{2, 3})), false, impl.OK)
}

func TestPromise5NobodyAndEverybody(t *testing.T) {
	for n := 1; n <= 7; n++ {
		for _, always := range []bool{false, true} {
			r := newRule(n, func(int) bool { return always })
			f := r.family()
			expect(t, "ModulesOf", show(impl.ModulesOf(f)), r.lists(func(mask int) bool { return mask != 0 }), impl.OK)
			expect(t, "all as a module", show(impl.ModuleFamily(f, countTo(int64(n)))), nobody(int64(n)), impl.OK)
			expect(t, "all as one holder", show(impl.OuterFamily(f, countTo(int64(n)))), newRule(1, func(int) bool { return always }).family(), impl.OK)
			expect(t, "one as a module", show(impl.ModuleFamily(f, []int64{0})), nobody(1), impl.OK)
			expect(t, "one as one holder", show(impl.OuterFamily(f, []int64{0})), f, impl.OK)
		}
	}
}

func TestPromise5ModuleErrors(t *testing.T) {
	families := []func(impl.Family, []int64) (impl.Family, int64){impl.ModuleFamily, impl.OuterFamily}
	for _, f := range brokenFamilies() {
		for _, group := range [][]int64{nil, {0}, {1, 0}, {9}} {
			expect(t, "IsModule", show(impl.IsModule(f, group)), false, impl.ErrInvalid)
			for _, of := range families {
				expect(t, "a broken family", show(of(f, group)), impl.Family{}, impl.ErrInvalid)
			}
		}
		expect(t, "ModulesOf", show(impl.ModulesOf(f)), [][]int64{}, impl.ErrInvalid)
	}
	for _, f := range []impl.Family{family(3, []int64{0, 1}, []int64{0, 2}), nobody(3), everybody(3)} {
		for _, group := range [][]int64{{3}, {-1}, {0, 3}, {1, 0}, {2, 2}, countTo(4), {-1 << 63}, {1<<63 - 1}} {
			expect(t, "IsModule", show(impl.IsModule(f, group)), false, impl.ErrRange)
			for _, of := range families {
				expect(t, "no group", show(of(f, group)), impl.Family{}, impl.ErrRange)
			}
		}
		expect(t, "the empty group", show(impl.IsModule(f, nil)), false, impl.OK)
		for _, of := range families {
			expect(t, "the empty group", show(of(f, []int64{})), impl.Family{}, impl.ErrState)
		}
	}
}
