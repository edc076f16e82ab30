package tests

import (
	"math/bits"
	"slices"
	"testing"

	"loop.example/g01117/impl"
)

func TestPromise16Example(t *testing.T) {
	path := pathFamily()
	expect(t, "CircuitsOf", show(impl.CircuitsOf(path)), [][]int64{{0, 1, 4}, {0, 2}, {1, 2, 4}, {1, 3}, {2, 3, 4}}, impl.OK)
	expect(t, "IsPort", show(impl.IsPort(path)), false, impl.OK)
	expect(t, "PortRanks", show(impl.PortRanks(path)), impl.Ranks{}, impl.ErrProof)
	pairs := family(3, []int64{0, 1}, []int64{0, 2}, []int64{1, 2})
	expect(t, "IsPort", show(impl.IsPort(pairs)), true, impl.OK)
	expect(t, "PortRanks", show(impl.PortRanks(pairs)), ranksOf(1, 0, 1, 1, 2, 1, 2, 2, 2), impl.OK)
}

// circuitsBy returns the masks of the circuits, in the order of numbers; the secret is the holder behind the others.
func circuitsBy(r rule) []int {
	least := leastMasks(r)
	isSet := make([]bool, 2*len(r))
	for _, a := range least {
		isSet[len(r)|a] = true
		for _, b := range least {
			inAll := a | b
			for _, c := range least {
				if c&(a|b) == c {
					inAll &= c
				}
			}
			isSet[(a|b)&^inAll] = isSet[(a|b)&^inAll] || a != b
		}
	}
	var circuits []int
	for set := 1; set < len(isSet); set++ {
		keep := isSet[set]
		for part := 1; part < set; part++ {
			keep = keep && (part&set != part || !isSet[part])
		}
		if keep {
			circuits = append(circuits, set)
		}
	}
	return circuits
}

func hasCircuit(circuits []int, set int) bool {
	return slices.ContainsFunc(circuits, func(circuit int) bool { return circuit&set == circuit })
}

func isPortBy(r rule, circuits []int) bool {
	for _, least := range leastMasks(r) {
		if !slices.Contains(circuits, len(r)|least) {
			return false
		}
	}
	for _, a := range circuits {
		for _, b := range circuits {
			for _, e := range members(a & b) {
				if a != b && !hasCircuit(circuits, (a|b)&^(1<<e)) {
					return false
				}
			}
		}
	}
	return true
}

// portRanksBy builds up the rank of each group from a part without circuits, holder by holder: in a port, all of these grow as far.
func portRanksBy(r rule, circuits []int) impl.Ranks {
	var list []int64
	for mask := range r {
		part := 0
		for _, h := range members(mask) {
			if !hasCircuit(circuits, part|1<<h) {
				part |= 1 << h
			}
		}
		list = append(list, int64(bits.OnesCount(uint(part))))
	}
	return ranksOf(1, list...)
}

func sortedLists(masks []int) [][]int64 {
	list := lists(masks)
	slices.SortFunc(list, slices.Compare)
	return list
}

func TestPromise16Circuits(t *testing.T) {
	rankedRules(1, func(r rule, f impl.Family) {
		expect(t, "CircuitsOf of "+r.text(), show(impl.CircuitsOf(f)), sortedLists(circuitsBy(r)), impl.OK)
	})
}

// TestPromise16Ports checks all families.
func TestPromise16Ports(t *testing.T) {
	ports, others := 0, 0
	rankedRules(1, func(r rule, f impl.Family) {
		circuits := circuitsBy(r)
		port := isPortBy(r, circuits)
		expect(t, "IsPort of "+r.text(), show(impl.IsPort(f)), port, impl.OK)
		ranks, code := impl.PortRanks(f)
		if !port {
			others++
			expect(t, "PortRanks of "+r.text(), show(ranks, code), impl.Ranks{}, impl.ErrProof)
			return
		}
		ports++
		expect(t, "PortRanks of "+r.text(), show(ranks, code), portRanksBy(r, circuits), impl.OK)
		expect(t, "validity and fit", show(isRanks(ranks), fitsBy(ranks, r)), true, true)
		expect(t, "FitsFamily of "+r.text(), show(impl.FitsFamily(ranks, f)), true, impl.OK)
		expect(t, "RatioOf of "+r.text(), show(impl.RatioOf(ranks)), 1, 1, impl.OK)
	})
	if ports < 500 || others < 5000 {
		t.Errorf("%d ports and %d other families are too few", ports, others)
	}
}

// TestPromise16AllMatroids looks for ranks that fit, in which no holder has more than 1: just ports have some.
func TestPromise16AllMatroids(t *testing.T) {
	all := map[int][]impl.Ranks{}
	for holders := 1; holders <= 5; holders++ {
		all[holders] = matroids(holders)
	}
	expect(t, "the numbers of matroids", show(len(all[1]), len(all[2]), len(all[3]), len(all[4]), len(all[5])), 2, 5, 16, 68, 406)
	rankedRules(4, func(r rule, f impl.Family) {
		found := slices.ContainsFunc(all[r.holders()], func(q impl.Ranks) bool { return fitsBy(q, r) })
		expect(t, "IsPort of "+r.text(), show(impl.IsPort(f)), found, impl.OK)
	})
}

// TestPromise16PortBounds checks that no sequence proves more of a port than its ranks have.
func TestPromise16PortBounds(t *testing.T) {
	rankedRules(5, func(r rule, f impl.Family) {
		if port, _ := impl.IsPort(f); !port {
			return
		}
		q, most, code := impl.BestSequence(f)
		expect(t, "BestSequence of "+r.text(), show(int64(len(q.Known)) == most, code), true, impl.OK)
	})
}

// TestPromise16PortsOfOthers checks that what is made of a port is one, too: its dual, and what is left without a holder or with one whom all trust.
func TestPromise16PortsOfOthers(t *testing.T) {
	rankedRules(3, func(r rule, f impl.Family) {
		port, _ := impl.IsPort(f)
		expect(t, "the dual of "+r.text(), show(impl.IsPort(dualRule(r).family())), port, impl.OK)
		if !port {
			return
		}
		for h := range r.holders() {
			for _, fewer := range []rule{withoutOf(r, h), trustOf(r, h)} {
				if r.holders() > 1 && opensSomehow(fewer) {
					expect(t, "fewer holders than "+r.text(), show(impl.IsPort(fewer.family())), true, impl.OK)
				}
			}
		}
	})
}

func TestPromise16Thresholds(t *testing.T) {
	for holders := int64(1); holders <= 5; holders++ {
		for least := int64(1); least <= holders; least++ {
			f, code := impl.ThresholdFamily(holders, least)
			expect(t, "ThresholdFamily", show(code), impl.OK)
			expect(t, "IsPort of "+show(holders, least), show(impl.IsPort(f)), true, impl.OK)
			wanted := ranksOf(1)
			wanted.Holders = holders
			for mask := range 1 << holders {
				wanted.List = append(wanted.List, min(int64(headcount(mask)), least))
			}
			expect(t, "PortRanks of "+show(holders, least), show(impl.PortRanks(f)), wanted, impl.OK)
			sizes := map[int]int{}
			circuits, _ := impl.CircuitsOf(f)
			for _, circuit := range circuits {
				sizes[len(circuit)]++
			}
			expect(t, "the sizes of circuits", show(len(sizes), sizes[int(least)+1] == len(circuits)), 1, true)
		}
		for _, least := range []int64{0, holders + 1} {
			f, _ := impl.ThresholdFamily(holders, least)
			expect(t, "IsPort of everybody or nobody", show(impl.IsPort(f)), false, impl.ErrState)
		}
	}
	// Any curve scheme has the ranks of the port.
	s, _ := impl.CurveScheme(7, 5, 3)
	r, _ := impl.SchemeRanks(s)
	f, _ := impl.ThresholdFamily(5, 3)
	port, _ := impl.PortRanks(f)
	expect(t, "SameRanks", show(impl.SameRanks(r, port)), true)
}

// TestPromise16Needless has holders in no least group: they are in no circuit, and so count in each rank.
func TestPromise16Needless(t *testing.T) {
	f := family(3, []int64{1})
	expect(t, "CircuitsOf", show(impl.CircuitsOf(f)), [][]int64{{1, 3}}, impl.OK)
	expect(t, "PortRanks", show(impl.PortRanks(f)), ranksOf(1, 0, 1, 1, 2, 1, 2, 2, 3), impl.OK)
	f = family(5, []int64{0, 4}, []int64{2, 4})
	expect(t, "CircuitsOf", show(impl.CircuitsOf(f)), [][]int64{{0, 2}, {0, 4, 5}, {2, 4, 5}}, impl.OK)
	r, code := impl.PortRanks(f)
	expect(t, "PortRanks", show(r.List[1], r.List[5], r.List[2], r.List[8], r.List[10], r.List[31], code), 1, 1, 1, 1, 2, 4, impl.OK)
	expect(t, "a single holder", show(impl.PortRanks(family(1, []int64{0}))), ranksOf(1, 0, 1), impl.OK)
	expect(t, "its circuits", show(impl.CircuitsOf(family(1, []int64{0}))), [][]int64{{0, 1}}, impl.OK)
}

func TestPromise16Errors(t *testing.T) {
	for name, x := range refusedFamilies() {
		expect(t, "CircuitsOf of "+name, show(impl.CircuitsOf(x.family)), [][]int64{}, x.code)
		expect(t, "IsPort of "+name, show(impl.IsPort(x.family)), false, x.code)
		expect(t, "PortRanks of "+name, show(impl.PortRanks(x.family)), impl.Ranks{}, x.code)
	}
	threshold, _ := impl.ThresholdFamily(6, 2)
	expect(t, "six holders", show(impl.IsPort(threshold)), false, impl.ErrLimit)
}
