package tests

import (
	"math"
	"math/bits"
	"slices"

	"loop.example/g01117/impl"
)

func growTerm(times int64, a, b int) impl.Term {
	return impl.Term{Kind: impl.TmGrow, A: members(a), B: members(b), Times: times}
}

func meetTerm(times int64, a, b int) impl.Term {
	return impl.Term{Kind: impl.TmMeet, A: members(a), B: members(b), Times: times}
}

func headcount(mask int) int { return bits.OnesCount(uint(mask)) }

// sumOfTerms returns the factor of each group in the sum of all left sides, and that of Unit in the sum of the right sides.
func sumOfTerms(r rule, terms []impl.Term) ([]int64, int64) {
	factors, units := make([]int64, len(r)), int64(0)
	for _, term := range terms {
		a, b := maskOf(term.A), maskOf(term.B)
		strict := !r[a] && r[b]
		factors[b] += term.Times
		if term.Kind == impl.TmGrow {
			factors[a] -= term.Times
		} else {
			strict = r[a] && r[b] && !r[a&b]
			factors[a] += term.Times
			factors[a|b] -= term.Times
			factors[a&b] -= term.Times
		}
		if strict {
			units += term.Times
		}
	}
	return factors, units
}

// singles returns the factors of the single holders, and whether those of all greater groups are 0.
func singles(factors []int64) ([]int64, bool) {
	var list []int64
	for mask, factor := range factors {
		if headcount(mask) == 1 {
			list = append(list, factor)
		} else if headcount(mask) > 1 && factor != 0 {
			return nil, false
		}
	}
	return list, true
}

// completed adds terms such that no factor of a group with two or more holders is left.
func completed(r rule, terms []impl.Term) []impl.Term {
	terms = slices.Clone(terms)
	for size := r.holders(); size > 1; size-- {
		for mask := range r {
			if headcount(mask) != size {
				continue
			}
			factors, _ := sumOfTerms(r, terms)
			last := 1 << (bits.Len(uint(mask)) - 1)
			if factors[mask] > 0 {
				terms = append(terms, meetTerm(factors[mask], last, mask&^last))
			} else if factors[mask] < 0 {
				terms = append(terms, growTerm(-factors[mask], last, mask))
			}
		}
	}
	return terms
}

// boundHolds reports whether the sum of the ranks of all holders, each times its factor, is at least so many units.
func boundHolds(q impl.Ranks, factors []int64, units int64) bool {
	sum := int64(0)
	for h, factor := range factors {
		sum += factor * q.List[1<<h]
	}
	return sum >= units*q.Unit
}

// A steps is a sequence in masks.
type steps struct {
	known       int
	chain, with []int
}

func lists(masks []int) [][]int64 {
	var list [][]int64
	for _, mask := range masks {
		list = append(list, members(mask))
	}
	return list
}

func (s steps) sequence() impl.Sequence {
	return impl.Sequence{Known: members(s.known), Chain: lists(s.chain), With: lists(s.with)}
}

// worth returns how many units a sequence proves, and false if it is none.
func (s steps) worth(r rule) (int64, bool) {
	for i, group := range s.chain {
		before := 0
		if i > 0 {
			before = s.chain[i-1]
		}
		if group&s.known != 0 || group == before || group&before != before || s.with[i]&s.known != s.with[i] || !r[group|s.with[i]] || r[before|s.with[i]] {
			return 0, false
		}
	}
	units := int64(len(s.chain))
	if units > 0 && r[s.chain[units-1]] {
		return 0, false
	}
	if r[s.known] {
		units++
	}
	return units, true
}

// stepsFor returns the sequence of a chain with the least groups in With, and false if there is none.
func stepsFor(r rule, known int, chain []int) (steps, bool) {
	s := steps{known: known}
	for _, group := range chain {
		s.chain, s.with = append(s.chain, group), append(s.with, 0)
		last, found := len(s.with)-1, false
		for with := 0; with <= known && !found; with++ {
			s.with[last] = with
			_, found = s.worth(r)
		}
		if !found {
			return steps{}, false
		}
	}
	return s, true
}

// allChains returns all chains of groups outside known that may not open, whether there is a sequence with them or not.
func allChains(r rule, known int) [][]int {
	chains := [][]int{{}}
	for i := 0; i < len(chains); i++ {
		before := 0
		if len(chains[i]) > 0 {
			before = chains[i][len(chains[i])-1]
		}
		for group := range r {
			if group&known == 0 && group != before && group&before == before && !r[group] {
				chains = append(chains, append(slices.Clone(chains[i]), group))
			}
		}
	}
	return chains
}

// bestSteps returns the first ones of all sequences in the order of what they are worth, of Known and of the chain.
func bestSteps(r rule) (steps, int64) {
	var best steps
	most := int64(0)
	for known := 1; known < len(r); known++ {
		for _, chain := range allChains(r, known) {
			s, ok := stepsFor(r, known, chain)
			if !ok {
				continue
			}
			units, _ := s.worth(r)
			more := float64(units)/float64(headcount(known)) - float64(most)/math.Max(1, float64(headcount(best.known)))
			if more > 1e-9 || math.Abs(more) < 1e-9 && known == best.known && slices.Compare(chain, best.chain) < 0 {
				best, most = s, units
			}
		}
	}
	return best, most
}

// terms prove what a sequence proves: that the holders of Known together have at least so many units.
func (s steps) terms() []impl.Term {
	last := 0
	var terms []impl.Term
	for i, group := range s.chain {
		terms = append(terms, meetTerm(1, last|s.known, group|s.with[i]), meetTerm(1, last|s.with[i], group))
		last = group
	}
	return append(terms, growTerm(1, last, last|s.known))
}

// brokenLists are no lists of groups of so many holders.
func brokenLists(holders int64) [][][]int64 {
	var broken [][][]int64
	for _, group := range brokenGroups(holders) {
		broken = append(broken, [][]int64{group}, [][]int64{{0}, group}, [][]int64{{}, {}, group, {0}})
	}
	return broken
}
