package tests

import (
	"math"
	"reflect"
	"slices"
	"testing"

	"loop.example/g01117/impl"
)

// chapter7 lists the functions of chapter 7 by their names.
func chapter7() map[string]any {
	return map[string]any{
		"ValidRanks": impl.ValidRanks, "SameRanks": impl.SameRanks, "RanksText": impl.RanksText, "RankAt": impl.RankAt, "FitsFamily": impl.FitsFamily,
		"FirstMisfit": impl.FirstMisfit, "RanksFamily": impl.RanksFamily, "RatioOf": impl.RatioOf, "AddRanks": impl.AddRanks, "DualRanks": impl.DualRanks,
		"CutRanks": impl.CutRanks, "TermBound": impl.TermBound, "CheckSequence": impl.CheckSequence, "SequenceFor": impl.SequenceFor,
		"BestSequence": impl.BestSequence, "CircuitsOf": impl.CircuitsOf, "IsPort": impl.IsPort, "PortRanks": impl.PortRanks, "SchemeRanks": impl.SchemeRanks,
	}
}

func trialRanks() []impl.Ranks {
	ranks := append(brokenRanks(), ranksOf(1, 0, 1), ranksOf(2, 0, 1), ranksOf(100000, 0, 100000), ranksOf(1, 0, 1, 1, 2), ranksOf(1, 0, 1, 1, 1), ranksOf(1, 0, 1, 1, 2, 1, 2, 2, 2), ranksOf(100000, 0, 100000, 100000, 100000), ranksOf(3, repeat(int64(0), 32)...))
	for _, f := range []impl.Family{family(3, []int64{0, 1}, []int64{0, 2}), family(3, []int64{0}, []int64{1, 2}), family(5, []int64{0, 4}, []int64{1, 2, 3})} {
		ranks = append(ranks, sharedRanks(ruleOf(f)), keptRanks(ruleOf(f)))
	}
	return ranks
}

func trialTerms() [][]impl.Term {
	const least, most = math.MinInt64, math.MaxInt64
	trials := [][]impl.Term{nil, {}, {{}}, {growTerm(1, 0, 1)}, {meetTerm(1, 1, 2), growTerm(1, 2, 3)}, {meetTerm(1, 1, 6)}, {growTerm(1, 2, 1)}, {growTerm(1, 0, 0), meetTerm(1000, 1, 1)}, {growTerm(0, 0, 1)}, {growTerm(1001, 0, 1)},
		{growTerm(least, 0, 1)}, {growTerm(most, 0, 1), growTerm(most, 0, 1)}, repeat(growTerm(1000, 0, 1), 40), repeat(growTerm(1, 0, 1), 41), {{Kind: 3, Times: 1}}, {{Kind: least, Times: 1}}, {{Kind: most, Times: 1}}, {{Kind: impl.TmMeet, Times: 1}}}
	for _, group := range slices.Concat(brokenGroups(3), [][]int64{countTo(5), {4}, {2, 1}, repeat(int64(0), 300)}) {
		trials = append(trials, []impl.Term{{Kind: impl.TmGrow, A: nil, B: group, Times: 1}}, []impl.Term{{Kind: impl.TmMeet, A: group, B: group, Times: 1}})
	}
	return trials
}

func trialSequences() []impl.Sequence {
	var trials []impl.Sequence
	some := [][]int64{nil, {0}, {1, 2}, {2}, {0, 4}, {1, 0}, {5}, {-1}, {math.MinInt64}, {math.MaxInt64}, {64}}
	for i, known := range some {
		trials = append(trials, impl.Sequence{Known: known}, impl.Sequence{Known: known, Chain: some[:i]}, impl.Sequence{Known: known, Chain: some[1:3], With: some[i:min(i+2, len(some))]}, impl.Sequence{Known: []int64{1, 2}, Chain: [][]int64{{0}, known}, With: [][]int64{{1}, {2}}}, impl.Sequence{Known: []int64{1}, Chain: [][]int64{{0}}, With: [][]int64{known}})
	}
	return trials
}

func TestPromise1AllArgumentsOfBounds(t *testing.T) {
	tryAll(t, chapter7(), "SequenceFor")
}

// TestPromise1BoundsThatFit gives ranks, families, terms, sequences and groups that fit together, so that they are not just refused.
func TestPromise1BoundsThatFit(t *testing.T) {
	try := trier(t, chapter7())
	rankedRules(500, func(r rule, f impl.Family) {
		list := fittingRanks(r)
		for _, q := range list[:4] {
			try("ValidRanks", q)
			try("SameRanks", q, q)
			try("RanksText", q)
			try("RatioOf", q)
			try("FitsFamily", q, f)
			try("FirstMisfit", q, f)
			try("FirstMisfit", ranksOf(100000, q.List...), f)
			try("DualRanks", q, f)
			try("AddRanks", q, list[len(list)-1])
			for h := range q.Holders {
				try("CutRanks", q, h)
				try("RankAt", q, []int64{h})
				try("RanksFamily", q, []int64{h})
			}
		}
		best, _ := bestSteps(r)
		try("BestSequence", f)
		try("CheckSequence", f, best.sequence())
		try("SequenceFor", f, members(best.known), lists(best.chain))
		try("TermBound", f, completed(r, best.terms()))
		try("CircuitsOf", f)
		try("IsPort", f)
		try("PortRanks", f)
	})
	for i, s := range smallSchemes() {
		if i%50 == 0 {
			try("SchemeRanks", s)
		}
	}
}

// TestPromise1BoundsShareNothing gives the same memory in several places, and writes into all results.
func TestPromise1BoundsShareNothing(t *testing.T) {
	r := ranksOf(1, 0, 1, 1, 2)
	sum, one := impl.AddRanks(r, r)
	cut, two := impl.CutRanks(r, 0)
	dual, three := impl.DualRanks(r, family(2, []int64{0, 1}))
	expect(t, "codes", show(one, two, three), 0, 0, 0)
	for _, result := range []impl.Ranks{sum, cut, dual} {
		if overlap(spansOf(reflect.ValueOf(result)), spansOf(reflect.ValueOf(r))) {
			t.Errorf("%v shares memory with its argument", result)
		}
		_ = append(result.List, 9)
		clear(result.List)
	}
	expect(t, "the argument", show(r), ranksOf(1, 0, 1, 1, 2))
	f := pathFamily()
	group, left := []int64{1, 2}, []int64{0}
	chain := [][]int64{left, {0, 3}}
	q, code := impl.SequenceFor(f, group, chain)
	expect(t, "SequenceFor", show(q, code), impl.Sequence{Known: group, Chain: chain, With: [][]int64{{1}, {2}}}, impl.OK)
	if overlap(spansOf(reflect.ValueOf(q)), slices.Concat(spansOf(reflect.ValueOf(chain)), spansOf(reflect.ValueOf(group)))) {
		t.Errorf("%v shares memory with its argument or itself", q)
	}
	for _, list := range slices.Concat([][]int64{q.Known}, q.Chain, q.With) {
		_ = append(list, 9)
		clear(list)
	}
	clear(q.Chain)
	expect(t, "the arguments", show(group, chain), []int64{1, 2}, [][]int64{{0}, {0, 3}})
	// One group is Known, in the chain and in With, and both groups of a term.
	expect(t, "one group everywhere", show(impl.CheckSequence(f, impl.Sequence{Known: group, Chain: [][]int64{group}, With: [][]int64{group}})), 0, impl.ErrProof)
	expect(t, "one group of a term", show(impl.TermBound(f, []impl.Term{{Kind: impl.TmMeet, A: group, B: group, Times: 3}, {Kind: impl.TmGrow, A: group, B: group, Times: 3}})), []int64{0, 0, 0, 0}, 0, impl.OK)
	expect(t, "one group in a chain twice", show(impl.SequenceFor(f, group, [][]int64{left, left})), impl.Sequence{}, impl.ErrProof)
}

// TestPromise1NilIsEmptyInBounds gives nil and empty slices, which are to count as the same.
func TestPromise1NilIsEmptyInBounds(t *testing.T) {
	f := pathFamily()
	empty := []int64{}
	terms := func(a, b []int64) []impl.Term {
		return []impl.Term{{Kind: impl.TmGrow, A: a, B: b, Times: 1}, {Kind: impl.TmMeet, A: b, B: a, Times: 1}}
	}
	for _, none := range [][]int64{nil, empty} {
		expect(t, "TermBound", show(impl.TermBound(f, terms(none, []int64{0}))), []int64{1, 0, 0, 0}, 0, impl.OK)
		expect(t, "TermBound", show(impl.TermBound(f, terms(none, none))), []int64{0, 0, 0, 0}, 0, impl.OK)
		expect(t, "RankAt", show(impl.RankAt(ranksOf(1, 0, 1), none)), 0, impl.OK)
		expect(t, "RanksFamily", show(impl.RanksFamily(ranksOf(1, 0, 1), none)), everybody(1), impl.OK)
		expect(t, "CheckSequence", show(impl.CheckSequence(f, impl.Sequence{Known: []int64{0, 1}, Chain: [][]int64{{2}}, With: [][]int64{none}})), 0, impl.ErrProof)
		expect(t, "SameRanks", show(impl.SameRanks(impl.Ranks{}, impl.Ranks{List: none})), true)
		expect(t, "ValidRanks", show(impl.ValidRanks(impl.Ranks{Holders: 1, Unit: 1, List: none})), false)
	}
	for _, none := range [][][]int64{nil, {}} {
		expect(t, "CheckSequence", show(impl.CheckSequence(f, impl.Sequence{Known: empty, Chain: none})), 0, impl.OK)
		expect(t, "CheckSequence", show(impl.CheckSequence(f, impl.Sequence{With: none})), 0, impl.OK)
		expect(t, "SequenceFor", show(impl.SequenceFor(f, nil, none)), impl.Sequence{}, impl.OK)
		expect(t, "SequenceFor", show(impl.SequenceFor(f, []int64{3}, none)), impl.Sequence{Known: []int64{3}}, impl.OK)
	}
	expect(t, "no terms", show(impl.TermBound(f, nil)), []int64{0, 0, 0, 0}, 0, impl.OK)
	expect(t, "no terms", show(impl.TermBound(f, []impl.Term{})), []int64{0, 0, 0, 0}, 0, impl.OK)
}

func TestPromise1HugeBounds(t *testing.T) {
	const many = 1_000_000
	list, f, good := countTo(many), pathFamily(), ranksOf(1, 0, 1, 1, 2)
	for holders := int64(-1); holders <= 6; holders++ {
		r := impl.Ranks{Holders: holders, Unit: 1, List: list}
		_, one := impl.RankAt(r, nil)
		_, two := impl.FitsFamily(r, f)
		_, three := impl.AddRanks(good, r)
		_, four := impl.CutRanks(r, 0)
		expect(t, "a long list", show(impl.ValidRanks(r), impl.RanksText(r), impl.SameRanks(r, r), impl.SameRanks(r, good), one, two, three, four), false, "", true, false, 1, 1, 1, 1)
	}
	_, one := impl.RankAt(good, list)
	_, two := impl.RanksFamily(good, list)
	_, _, three := impl.TermBound(f, repeat(growTerm(1, 0, 1), many/4))
	_, _, four := impl.TermBound(f, []impl.Term{{Kind: impl.TmGrow, A: nil, B: list, Times: 1}})
	_, five := impl.CheckSequence(f, impl.Sequence{Known: list})
	_, six := impl.CheckSequence(f, impl.Sequence{Known: []int64{1}, Chain: repeat([]int64{0}, many/4), With: repeat([]int64{1}, many/4)})
	_, seven := impl.CheckSequence(f, impl.Sequence{Chain: repeat([]int64{}, many/2)})
	_, eight := impl.SequenceFor(f, []int64{1}, repeat([]int64{0}, many/4))
	_, nine := impl.SequenceFor(f, []int64{1}, append(repeat([]int64{0}, many/4), list))
	expect(t, "codes", show(one, two, three, four, five, six, seven, eight, nine), 2, 2, 2, 2, 2, 8, 2, 8, 2)
	wide := family(5, repeat([]int64{0}, many)...)
	_, _, one = impl.BestSequence(wide)
	_, two = impl.CircuitsOf(wide)
	_, three = impl.PortRanks(wide)
	_, four = impl.SchemeRanks(schemeOf(5, make([]int64, many), matrixOf(2, 1, repeat([]int64{}, many)...)))
	expect(t, "codes", show(one, two, three, four), 1, 1, 1, 1)
	large := schemeOf(5, nil, someMatrix(drawer(7), 31, 20, 12))
	for i := range large.Matrix.Rows {
		large.Owners = append(large.Owners, int64(i%5))
	}
	expect(t, "the largest scheme", show(impl.SchemeRanks(large)), schemeRanksBy(large), impl.OK)
}
