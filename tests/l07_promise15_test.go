package tests

import (
	"math"
	"slices"
	"testing"

	"loop.example/g01117/impl"
)

func pathFamily() impl.Family { return family(4, []int64{0, 1}, []int64{1, 2}, []int64{2, 3}) }

func TestPromise15Example(t *testing.T) {
	f := pathFamily()
	q := impl.Sequence{Known: []int64{1, 2}, Chain: [][]int64{{0}, {0, 3}}, With: [][]int64{{1}, {2}}}
	expect(t, "CheckSequence", show(impl.CheckSequence(f, q)), 3, impl.OK)
	expect(t, "SequenceFor", show(impl.SequenceFor(f, q.Known, q.Chain)), q, impl.OK)
	expect(t, "BestSequence", show(impl.BestSequence(f)), q, 3, impl.OK)
}

// checkTerms compares TermBound with its definition, and returns whether the terms are a proof.
// What they prove has to hold for some ranks that fit.
func checkTerms(t *testing.T, r rule, f impl.Family, terms []impl.Term, fitting []impl.Ranks) bool {
	t.Helper()
	what := "TermBound of " + r.text() + show(terms)
	sum, units := sumOfTerms(r, terms)
	factors, proof := singles(sum)
	if len(terms) > 40 || slices.ContainsFunc(terms, func(x impl.Term) bool { return x.Times > 1000 }) {
		expect(t, what, show(impl.TermBound(f, terms)), []int64{}, 0, impl.ErrRange)
		return false
	}
	if !proof {
		expect(t, what, show(impl.TermBound(f, terms)), []int64{}, 0, impl.ErrProof)
		return false
	}
	got, bound, code := impl.TermBound(f, terms)
	expect(t, what, show(got, bound, code), factors, units, impl.OK)
	for _, q := range fitting {
		if !boundHolds(q, got, bound) {
			t.Errorf("%s does not hold for %v", what, q)
		}
	}
	return true
}

// TestPromise15SingleTerms makes a proof of each term alone, by further ones of which none has a Unit that it does not need.
func TestPromise15SingleTerms(t *testing.T) {
	proofs := 0
	rankedRules(400, func(r rule, f impl.Family) {
		fitting := fittingRanks(r)
		for a := range r {
			for b := range r {
				for _, term := range []impl.Term{growTerm(1, a, b), meetTerm(1, a, b)} {
					if term.Kind == impl.TmGrow && a&b != a {
						expect(t, "no part", show(impl.TermBound(f, []impl.Term{term})), []int64{}, 0, impl.ErrRange)
						continue
					}
					if r.holders() < 4 {
						checkTerms(t, r, f, []impl.Term{term}, fitting)
					}
					if checkTerms(t, r, f, completed(r, []impl.Term{term}), fitting) {
						proofs++
					}
				}
			}
		}
	})
	if proofs < 20000 {
		t.Errorf("%d proofs are too few", proofs)
	}
}

func TestPromise15Terms(t *testing.T) {
	draw := drawer(15)
	proofs, others := 0, 0
	rankedRules(10, func(r rule, f impl.Family) {
		fitting := fittingRanks(r)
		for range 4 {
			var terms []impl.Term
			for range 1 + draw(5) {
				a, b, times := int(draw(int64(len(r)))), int(draw(int64(len(r)))), 1+draw(6)
				terms = append(terms, meetTerm(times, a, b))
				if draw(2) == 0 {
					terms = append(terms, growTerm(times, a&b, b))
				}
			}
			whole := completed(r, terms)
			// The order of terms does not matter.
			slices.Reverse(whole)
			for _, list := range [][]impl.Term{terms, whole} {
				if checkTerms(t, r, f, list, fitting) {
					proofs++
				} else {
					others++
				}
			}
			at := draw(int64(len(whole)))
			whole[at].Times++
			checkTerms(t, r, f, whole, fitting)
		}
	})
	if proofs < 1000 || others < 1000 {
		t.Errorf("%d proofs and %d other lists of terms are too few", proofs, others)
	}
}

func TestPromise15TermLimits(t *testing.T) {
	f := family(2, []int64{0})
	grow := growTerm(1, 0, 1)
	expect(t, "no terms", show(impl.TermBound(f, nil)), []int64{0, 0}, 0, impl.OK)
	expect(t, "40 terms", show(impl.TermBound(f, repeat(grow, 40))), []int64{40, 0}, 40, impl.OK)
	expect(t, "41 terms", show(impl.TermBound(f, repeat(grow, 41))), []int64{}, 0, impl.ErrRange)
	expect(t, "40 terms of 1000 times", show(impl.TermBound(f, repeat(growTerm(1000, 0, 1), 40))), []int64{40000, 0}, 40000, impl.OK)
	for times, code := range map[int64]int64{math.MinInt64: 2, -1: 2, 0: 2, 1: 0, 2: 0, 999: 0, 1000: 0, 1001: 2, 1 << 32: 2, 1<<32 + 1: 2, math.MaxInt64: 2} {
		for _, term := range []impl.Term{growTerm(times, 0, 1), meetTerm(times, 1, 1)} {
			_, units, got := impl.TermBound(f, []impl.Term{term})
			expect(t, "the code of so many times", show(got, units == times || term.Kind == impl.TmMeet || code != 0), code, true)
			_, _, got = impl.TermBound(f, []impl.Term{grow, term, grow})
			expect(t, "the code of so many times among others", show(got), code)
		}
	}
	for _, kind := range []int64{math.MinInt64, -1, 0, 3, 4, 1<<32 + 1, math.MaxInt64} {
		expect(t, "another kind", show(impl.TermBound(f, []impl.Term{grow, {Kind: kind, A: nil, B: []int64{0}, Times: 1}})), []int64{}, 0, impl.ErrRange)
	}
	for _, kind := range []int64{impl.TmGrow, impl.TmMeet} {
		for _, group := range brokenGroups(2) {
			for _, term := range []impl.Term{{Kind: kind, A: group, B: []int64{0, 1}, Times: 1}, {Kind: kind, A: nil, B: group, Times: 1}, {Kind: kind, A: group, B: group, Times: 1}} {
				expect(t, "no group", show(impl.TermBound(f, []impl.Term{grow, term})), []int64{}, 0, impl.ErrRange)
			}
		}
	}
	// Terms that are none are refused before terms that are no proof.
	open := growTerm(1, 1, 3)
	expect(t, "no proof", show(impl.TermBound(f, []impl.Term{open})), []int64{}, 0, impl.ErrProof)
	expect(t, "no proof, and too many times", show(impl.TermBound(f, []impl.Term{open, growTerm(1001, 0, 1)})), []int64{}, 0, impl.ErrRange)
	expect(t, "no proof, and no part", show(impl.TermBound(f, []impl.Term{open, growTerm(1, 1, 2)})), []int64{}, 0, impl.ErrRange)
	expect(t, "no proof of 41 terms", show(impl.TermBound(f, repeat(open, 41))), []int64{}, 0, impl.ErrRange)
}

func TestPromise15Errors(t *testing.T) {
	bad := []impl.Term{{Kind: 9}}
	q := impl.Sequence{Known: []int64{9}}
	for name, x := range refusedFamilies() {
		for _, terms := range [][]impl.Term{nil, bad, {growTerm(1, 0, 1)}, repeat(growTerm(1, 0, 1), 41)} {
			expect(t, "TermBound of "+name, show(impl.TermBound(x.family, terms)), []int64{}, 0, x.code)
		}
		expect(t, "CheckSequence of "+name, show(impl.CheckSequence(x.family, q)), 0, x.code)
		expect(t, "CheckSequence of "+name, show(impl.CheckSequence(x.family, impl.Sequence{})), 0, x.code)
		expect(t, "SequenceFor of "+name, show(impl.SequenceFor(x.family, q.Known, nil)), impl.Sequence{}, x.code)
		expect(t, "SequenceFor of "+name, show(impl.SequenceFor(x.family, nil, nil)), impl.Sequence{}, x.code)
		expect(t, "BestSequence of "+name, show(impl.BestSequence(x.family)), impl.Sequence{}, 0, x.code)
	}
}

// checkSteps compares CheckSequence with its definition.
func checkSteps(t *testing.T, r rule, f impl.Family, s steps) bool {
	t.Helper()
	units, ok := s.worth(r)
	code := int64(impl.OK)
	if !ok {
		units, code = 0, impl.ErrProof
	}
	expect(t, "CheckSequence of "+r.text()+show(s), show(impl.CheckSequence(f, s.sequence())), units, code)
	return ok
}

// TestPromise15AllSequences tries, for the families of up to three holders, all groups in Known, Chain and With; of the longest ones that are none, some.
func TestPromise15AllSequences(t *testing.T) {
	good, bad, draw := 0, 0, drawer(16)
	rankedRules(math.MaxInt, func(r rule, f impl.Family) {
		if r.holders() > 3 {
			return
		}
		for known := range r {
			for length := range 3 {
				for _, groups := range allLists(int64(len(r)), 2*length) {
					s := steps{known: known}
					for i := range length {
						s.chain, s.with = append(s.chain, int(groups[i])), append(s.with, int(groups[length+i]))
					}
					if _, ok := s.worth(r); !ok && len(groups) == 4 && draw(8) > 0 {
						continue
					}
					if checkSteps(t, r, f, s) {
						good++
					} else {
						bad++
					}
				}
			}
		}
	})
	if good < 200 || bad < 10000 {
		t.Errorf("%d sequences and %d others are too few", good, bad)
	}
}

// TestPromise15NearlySequences puts each group in each place of the longest sequences.
func TestPromise15NearlySequences(t *testing.T) {
	good, bad, lengths := 0, 0, map[int]bool{}
	rankedRules(150, func(r rule, f impl.Family) {
		best, _ := bestSteps(r)
		lengths[len(best.chain)] = true
		checkSteps(t, r, f, best)
		count := func(s steps) {
			if checkSteps(t, r, f, s) {
				good++
			} else {
				bad++
			}
		}
		for group := range r {
			count(steps{group, best.chain, best.with})
			for at := range best.chain {
				chain, with := slices.Clone(best.chain), slices.Clone(best.with)
				chain[at], with[at] = group, group
				count(steps{best.known, chain, best.with})
				count(steps{best.known, best.chain, with})
				count(steps{best.known, slices.Insert(slices.Clone(best.chain), at, group), slices.Insert(slices.Clone(best.with), at, best.with[at])})
			}
			count(steps{best.known, append(slices.Clone(best.chain), group), append(slices.Clone(best.with), best.known)})
		}
	})
	if good < 1000 || bad < 1000 || len(lengths) < 3 {
		t.Errorf("%d sequences and %d others, with %d lengths, are too few", good, bad, len(lengths))
	}
}

func TestPromise15SequenceRanges(t *testing.T) {
	f := pathFamily()
	good := impl.Sequence{Known: []int64{1, 2}, Chain: [][]int64{{0}, {0, 3}}, With: [][]int64{{1}, {2}}}
	var none []impl.Sequence
	for _, group := range brokenGroups(4) {
		none = append(none, impl.Sequence{Known: group, Chain: good.Chain, With: good.With}, impl.Sequence{Known: group})
		for at := range 2 {
			chain, with := slices.Clone(good.Chain), slices.Clone(good.With)
			chain[at], with[at] = group, group
			none = append(none, impl.Sequence{Known: good.Known, Chain: chain, With: good.With}, impl.Sequence{Known: good.Known, Chain: good.Chain, With: with})
			expect(t, "a chain of others", show(impl.SequenceFor(f, good.Known, chain)), impl.Sequence{}, impl.ErrRange)
		}
		expect(t, "no group known", show(impl.SequenceFor(f, group, good.Chain)), impl.Sequence{}, impl.ErrRange)
		// What is no group is found before what proves nothing.
		none = append(none, impl.Sequence{Known: good.Known, Chain: [][]int64{{1}, group}, With: good.With}, impl.Sequence{Known: good.Known, Chain: [][]int64{{1}, {0}}, With: [][]int64{{0}, group}},
			impl.Sequence{Known: good.Known, Chain: [][]int64{group}}, impl.Sequence{Known: good.Known, With: [][]int64{group}}, impl.Sequence{Known: good.Known, Chain: [][]int64{{0}, group}, With: [][]int64{{1}, group}})
		expect(t, "no proof, and no group", show(impl.SequenceFor(f, good.Known, [][]int64{{1}, {0}, group})), impl.Sequence{}, impl.ErrRange)
	}
	none = append(none,
		impl.Sequence{Known: good.Known, Chain: good.Chain, With: good.With[:1]}, impl.Sequence{Known: good.Known, Chain: good.Chain[:1], With: good.With}, impl.Sequence{Known: good.Known, Chain: good.Chain}, impl.Sequence{Known: good.Known, With: good.With},
		impl.Sequence{Known: good.Known, With: [][]int64{nil}}, impl.Sequence{Known: good.Known, Chain: [][]int64{nil}}, impl.Sequence{Known: good.Known, Chain: [][]int64{{1}, {0}}, With: [][]int64{{0}}})
	for _, q := range none {
		expect(t, "CheckSequence of "+show(q), show(impl.CheckSequence(f, q)), 0, impl.ErrRange)
	}
	expect(t, "an empty chain", show(impl.CheckSequence(f, impl.Sequence{Known: []int64{0}})), 0, impl.OK)
	expect(t, "an empty chain of a Known that may open", show(impl.CheckSequence(f, impl.Sequence{Known: []int64{0, 1}})), 1, impl.OK)
	expect(t, "nothing known", show(impl.CheckSequence(f, impl.Sequence{})), 0, impl.OK)
	expect(t, "nothing known but a chain", show(impl.CheckSequence(f, impl.Sequence{Chain: [][]int64{{0}}, With: [][]int64{nil}})), 0, impl.ErrProof)
	expect(t, "an empty group in the chain", show(impl.CheckSequence(f, impl.Sequence{Known: []int64{0, 1}, Chain: [][]int64{nil}, With: [][]int64{{0, 1}}})), 0, impl.ErrProof)
	expect(t, "a chain of a Known that may open", show(impl.CheckSequence(f, impl.Sequence{Known: []int64{0, 1}, Chain: [][]int64{{2}}, With: [][]int64{{1}}})), 2, impl.OK)
	expect(t, "a holder known and in the chain", show(impl.CheckSequence(f, impl.Sequence{Known: []int64{1, 2}, Chain: [][]int64{{0, 2}}, With: [][]int64{{1}}})), 0, impl.ErrProof)
	expect(t, "a last group that may open", show(impl.CheckSequence(f, impl.Sequence{Known: []int64{2}, Chain: [][]int64{{1}, {0, 1}}, With: [][]int64{{2}, nil}})), 0, impl.ErrProof)
}

// checkFor compares SequenceFor with its definition.
func checkFor(t *testing.T, r rule, f impl.Family, known int, chain []int) bool {
	t.Helper()
	s, ok := stepsFor(r, known, chain)
	wanted, code := s.sequence(), int64(impl.OK)
	if !ok {
		wanted, code = impl.Sequence{}, impl.ErrProof
	}
	expect(t, "SequenceFor of "+r.text()+show(known, chain), show(impl.SequenceFor(f, members(known), lists(chain))), wanted, code)
	return ok
}

func TestPromise15SequenceFor(t *testing.T) {
	good, bad, greater, draw := 0, 0, 0, drawer(17)
	rankedRules(300, func(r rule, f impl.Family) {
		count := func(known int, chain []int) {
			if !checkFor(t, r, f, known, chain) {
				bad++
				return
			}
			good++
			s, _ := stepsFor(r, known, chain)
			for i, with := range s.with {
				if headcount(with) > 1 || i > 0 && with < s.with[i-1] {
					greater++
				}
			}
		}
		for known := range r {
			for _, chain := range allChains(r, known) {
				if r.holders() < 5 || draw(3) == 0 {
					count(known, chain)
				}
			}
			for range 20 {
				chain := make([]int, 1+draw(3))
				for i := range chain {
					chain[i] = int(draw(int64(len(r))))
				}
				count(known, chain)
			}
		}
	})
	if good < 1000 || bad < 1000 || greater < 100 {
		t.Errorf("%d chains that have sequences, %d others and %d greater groups are too few", good, bad, greater)
	}
	// The list of A and C comes before that of B, but their number behind it.
	f := family(4, []int64{0, 2, 3}, []int64{1, 3})
	expect(t, "the least number", show(impl.SequenceFor(f, []int64{0, 1, 2}, [][]int64{{3}})), impl.Sequence{Known: []int64{0, 1, 2}, Chain: [][]int64{{3}}, With: [][]int64{{1}}}, impl.OK)
}

func TestPromise15Best(t *testing.T) {
	chains := map[int]int{}
	rankedRules(10, func(r rule, f impl.Family) {
		best, most := bestSteps(r)
		expect(t, "BestSequence of "+r.text(), show(impl.BestSequence(f)), best.sequence(), most, impl.OK)
		expect(t, "CheckSequence of the best one", show(impl.CheckSequence(f, best.sequence())), most, impl.OK)
		chains[len(best.chain)]++
	})
	for length := range 4 {
		if chains[length] == 0 {
			t.Errorf("no best sequence has %d groups", length)
		}
	}
}

// TestPromise15FirstBest has families with several sequences that are equally good.
func TestPromise15FirstBest(t *testing.T) {
	best := func(f impl.Family, known []int64, chain, with [][]int64, most int64) {
		t.Helper()
		expect(t, "BestSequence of "+show(f), show(impl.BestSequence(f)), impl.Sequence{Known: known, Chain: chain, With: with}, most, impl.OK)
	}
	best(family(1, []int64{0}), []int64{0}, nil, nil, 1)
	best(family(2, []int64{0}, []int64{1}), []int64{0}, nil, nil, 1)
	best(family(2, []int64{1}), []int64{1}, nil, nil, 1)
	best(family(5, []int64{4}), []int64{4}, nil, nil, 1)
	best(family(2, []int64{0, 1}), []int64{0}, [][]int64{{1}}, [][]int64{{0}}, 1)
	best(family(3, []int64{0, 1}, []int64{0, 2}, []int64{1, 2}), []int64{0}, [][]int64{{1}}, [][]int64{{0}}, 1)
	best(family(4, []int64{0, 2}, []int64{0, 3}), []int64{0}, [][]int64{{2}}, [][]int64{{0}}, 1)
	// The list of B and C comes before those of C and of D, but its number between theirs.
	best(family(4, []int64{0, 1, 2}, []int64{0, 3}), []int64{0}, [][]int64{{1, 2}}, [][]int64{{0}}, 1)
	best(family(4, []int64{0, 1, 3}, []int64{0, 2}), []int64{0}, [][]int64{{2}}, [][]int64{{0}}, 1)
	best(family(5, countTo(5)), []int64{0}, [][]int64{{1, 2, 3, 4}}, [][]int64{{0}}, 1)
}

// TestPromise15BestHolds compares the best bounds with ranks that fit, and with what terms prove.
func TestPromise15BestHolds(t *testing.T) {
	rankedRules(20, func(r rule, f impl.Family) {
		q, most, code := impl.BestSequence(f)
		s := steps{known: maskOf(q.Known)}
		for i := range q.Chain {
			s.chain, s.with = append(s.chain, maskOf(q.Chain[i])), append(s.with, maskOf(q.With[i]))
		}
		expect(t, "BestSequence", show(code, most >= int64(len(q.Known))), impl.OK, true)
		checkHolds(t, r, f, s, most, fittingRanks(r))
	})
}

// checkHolds checks that the holders that are known have so many units in all ranks that fit, and that terms prove no less.
func checkHolds(t *testing.T, r rule, f impl.Family, s steps, units int64, fitting []impl.Ranks) {
	t.Helper()
	for _, q := range fitting {
		rank, code := impl.RankAt(q, members(s.known))
		expect(t, "ranks "+show(q)+" of as much as "+show(s, units), show(rank >= units*q.Unit, code), true, impl.OK)
	}
	terms := completed(r, s.terms())
	factors, bound, code := impl.TermBound(f, terms)
	wanted := make([]int64, r.holders())
	for _, h := range members(s.known) {
		wanted[h] = 1
	}
	expect(t, "the terms for "+show(s), show(factors, bound >= units, code), wanted, true, impl.OK)
}

func TestPromise15SequencesHold(t *testing.T) {
	count := 0
	rankedRules(250, func(r rule, f impl.Family) {
		fitting := fittingRanks(r)
		for known := range r {
			for _, chain := range allChains(r, known) {
				s, ok := stepsFor(r, known, chain)
				if !ok {
					continue
				}
				units, code := impl.CheckSequence(f, s.sequence())
				expect(t, "CheckSequence", show(code), impl.OK)
				checkHolds(t, r, f, s, units, fitting)
				count++
			}
		}
	})
	if count < 1000 {
		t.Errorf("%d sequences are too few", count)
	}
}

// TestPromise15Schemes compares the ranks of schemes, which fit their families, with the best bounds.
func TestPromise15Schemes(t *testing.T) {
	fits := 0
	check := func(s impl.Scheme) {
		if s.Holders > 5 {
			expect(t, "too many holders", show(impl.SchemeRanks(s)), impl.Ranks{}, impl.ErrLimit)
			return
		}
		r, code := impl.SchemeRanks(s)
		expect(t, "SchemeRanks of "+schemeText(s), show(r, code, impl.ValidRanks(r)), schemeRanksBy(s), impl.OK, true)
		opens := ruleOfScheme(s)
		if !opensSomehow(opens) {
			return
		}
		fits++
		f := opens.family()
		expect(t, "FitsFamily of "+schemeText(s), show(impl.FitsFamily(r, f)), true, impl.OK)
		q, most, _ := impl.BestSequence(f)
		rank, _ := impl.RankAt(r, q.Known)
		expect(t, "the bound of "+schemeText(s), show(rank >= most), true)
	}
	for i, s := range smallSchemes() {
		if i%3 == 0 {
			check(s)
		}
	}
	for _, s := range someSchemes() {
		check(s)
	}
	rankedRules(100, func(r rule, f impl.Family) {
		for _, p := range []int64{2, 3, 11, 31} {
			if s, code := impl.SchemeOfFamily(p, f); code == impl.OK {
				check(s)
			}
		}
	})
	if fits < 300 {
		t.Errorf("%d schemes that somebody opens are too few", fits)
	}
	for _, s := range brokenSchemes() {
		expect(t, "a broken scheme", show(impl.SchemeRanks(s)), impl.Ranks{}, impl.ErrInvalid)
	}
	six := schemeOf(6, []int64{0}, matrixOf(2, 1, []int64{1}))
	expect(t, "six holders", show(impl.SchemeRanks(six)), impl.Ranks{}, impl.ErrLimit)
	six.Holders = 5
	expect(t, "five holders", show(impl.SchemeRanks(six)), impl.Ranks{Holders: 5, Unit: 1, List: slices.Repeat([]int64{0, 1}, 16)}, impl.OK)
	six.Matrix.Prime = 4
	six.Holders = 7
	expect(t, "seven holders of a broken scheme", show(impl.SchemeRanks(six)), impl.Ranks{}, impl.ErrInvalid)
}

// TestPromise15Path has a scheme in which the holders B and C have together just three times the size of the secret.
func TestPromise15Path(t *testing.T) {
	f := pathFamily()
	s := scheme("scheme 4 3 3\nrow A 0 1 0\nrow B 1 1 0\nrow C 0 1 0\nrow C 1 0 1\nrow D 0 0 1\n")
	expect(t, "its family", show(ruleOfScheme(s).text()), impl.FamilyText(f))
	r, code := impl.SchemeRanks(s)
	together, _ := impl.RankAt(r, []int64{1, 2})
	expect(t, "its ranks", show(code, together), impl.OK, 3)
	a, b, _ := impl.RatioOf(r)
	expect(t, "its ratio", show(a, b), 2, 1)
}
