package tests

import (
	"math"
	"slices"
	"testing"

	"loop.example/g01117/impl"
)

func TestPromise14Example(t *testing.T) {
	f := family(3, []int64{0, 1}, []int64{0, 2}, []int64{1, 2})
	r, code := impl.PortRanks(f)
	expect(t, "PortRanks", show(impl.RanksText(r), code), "ranks 3 1\n- 0\nA 1\nB 1\nAB 2\nC 1\nAC 2\nBC 2\nABC 2\n", impl.OK)
	expect(t, "FitsFamily", show(impl.FitsFamily(r, f)), true, impl.OK)
	expect(t, "DualRanks", show(impl.DualRanks(r, f)), r, impl.OK)
	expect(t, "CutRanks", show(impl.CutRanks(r, 2)), ranksOf(1, 0, 1, 1, 2), impl.OK)
}

// checkValid compares all that depends on the validity of ranks alone.
func checkValid(t *testing.T, r impl.Ranks) bool {
	t.Helper()
	valid, text := isRanks(r), ""
	if valid {
		text = rankText(r)
	}
	expect(t, "ValidRanks, RanksText of "+show(r), show(impl.ValidRanks(r), impl.RanksText(r)), valid, text)
	return valid
}

func TestPromise14Valid(t *testing.T) {
	valid, invalid := 0, 0
	count := func(r impl.Ranks) {
		if checkValid(t, r) {
			valid++
		} else {
			invalid++
		}
	}
	for _, unit := range []int64{0, 1, 2} {
		for _, size := range [][2]int64{{2, 5}, {4, 5}, {8, 2}, {1, 3}, {3, 3}, {5, 3}} {
			for _, list := range allLists(size[1], int(size[0])) {
				r := ranksOf(unit, list...)
				count(r)
				// Then the numbers begin at -1.
				for mask := range r.List {
					r.List[mask]--
				}
				count(r)
			}
		}
	}
	for _, list := range listsOfRanks(3, 8) {
		count(ranksOf(1, list...))
	}
	for holders := 1; holders <= 5; holders++ {
		for i, r := range smallRanks()[holders] {
			if i%10 == 0 || holders > 3 {
				count(r)
				for _, q := range nearlyRanks(r) {
					count(q)
				}
			}
		}
	}
	if valid < 800 || invalid < 1000 {
		t.Errorf("%d valid and %d other ranks are too few", valid, invalid)
	}
}

func TestPromise14Invalid(t *testing.T) {
	for _, r := range brokenRanks() {
		expect(t, "the test's own definition", show(isRanks(r)), false)
		checkValid(t, r)
		_, one := impl.RankAt(r, []int64{-1})
		_, two := impl.FitsFamily(r, nobody(7))
		_, _, three := impl.FirstMisfit(r, nobody(7))
		_, four := impl.RanksFamily(r, []int64{9})
		_, _, five := impl.RatioOf(r)
		_, six := impl.AddRanks(r, ranksOf(1, 0, 1))
		_, seven := impl.AddRanks(ranksOf(1, 0, 1), r)
		_, eight := impl.DualRanks(r, nobody(7))
		_, nine := impl.CutRanks(r, -1)
		expect(t, "codes of "+show(r), show(one, two, three, four, five, six, seven, eight, nine), 1, 1, 1, 1, 1, 1, 1, 1, 1)
	}
}

func TestPromise14Limits(t *testing.T) {
	flat := func(holders int, unit, rank int64) impl.Ranks {
		return impl.Ranks{Holders: int64(holders), Unit: unit, List: slices.Concat([]int64{0}, repeat(rank, 1<<holders-1))}
	}
	for holders := 0; holders <= 7; holders++ {
		for _, unit := range []int64{-1, 0, 1, 2, 99999, 100000, 100001, 200000} {
			for _, rank := range []int64{-1, 0, 1, 99999, 100000, 100001, 200000} {
				r := flat(holders, unit, rank)
				fine := holders >= 1 && holders <= 5 && unit >= 1 && unit <= 100000 && rank >= 0 && rank <= 100000
				expect(t, "ValidRanks of "+show(holders, unit, rank), show(impl.ValidRanks(r)), fine)
			}
		}
	}
	for holders := 1; holders <= 5; holders++ {
		r := flat(holders, 1, 7)
		for length := range 70 {
			q := impl.Ranks{Holders: int64(holders), Unit: 1, List: slices.Concat([]int64{0}, repeat(int64(7), 69))[:length]}
			expect(t, "so many ranks", show(impl.ValidRanks(q)), length == len(r.List))
		}
	}
	growing := ranksOf(100000, 0, 50000, 50000, 100000)
	expect(t, "ranks up to the greatest", show(impl.ValidRanks(growing), impl.RanksText(growing)), true, "ranks 2 100000\n- 0\nA 50000\nB 50000\nAB 100000\n")
	growing.List[3]++
	expect(t, "one more", show(impl.ValidRanks(growing), impl.RanksText(growing)), false, "")
}

func TestPromise14Same(t *testing.T) {
	r := ranksOf(1, 0, 1, 1, 2)
	list := []impl.Ranks{r, ranksOf(2, 0, 1, 1, 2), ranksOf(1, 0, 1, 1, 1), ranksOf(1, 0, 1, 2, 2), ranksOf(1, 1, 1, 1, 2), {Holders: 3, Unit: 1, List: r.List}, {Holders: 2, Unit: 1, List: r.List[:3]}, {Holders: 2, Unit: 1}, {}}
	list = append(list, brokenRanks()[1:]...)
	for i, a := range list {
		for k, b := range list {
			copied := impl.Ranks{Holders: b.Holders, Unit: b.Unit, List: slices.Clone(b.List)}
			expect(t, "SameRanks of "+show(a, b), show(impl.SameRanks(a, copied)), i == k || show(a) == show(b))
		}
	}
}

func TestPromise14RankAt(t *testing.T) {
	for holders := 1; holders <= 5; holders++ {
		for _, r := range smallRanks()[holders] {
			for mask, rank := range r.List {
				expect(t, "RankAt of "+show(r, mask), show(impl.RankAt(r, members(mask))), rank, impl.OK)
			}
			for _, group := range brokenGroups(int64(holders)) {
				expect(t, "RankAt of no group", show(impl.RankAt(r, group)), 0, impl.ErrRange)
			}
		}
	}
}

// checkFits compares FitsFamily and FirstMisfit with their definitions, and returns whether the ranks fit.
func checkFits(t *testing.T, r impl.Ranks, opens rule, f impl.Family) bool {
	t.Helper()
	what := " of " + opens.text() + show(r)
	pairs := misfits(r, opens)
	fits := fitsBy(r, opens)
	expect(t, "no misfits"+what, show(len(pairs) == 0), fits)
	expect(t, "FitsFamily"+what, show(impl.FitsFamily(r, f)), fits, impl.OK)
	if fits {
		expect(t, "FirstMisfit"+what, show(impl.FirstMisfit(r, f)), []int64{}, []int64{}, impl.ErrNotFound)
	} else {
		expect(t, "FirstMisfit"+what, show(impl.FirstMisfit(r, f)), members(pairs[0][0]), members(pairs[0][1]), impl.OK)
	}
	return fits
}

func TestPromise14Fits(t *testing.T) {
	fits, not, several := 0, 0, 0
	rankedRules(60, func(r rule, f impl.Family) {
		list := fittingRanks(r)[:4]
		for _, q := range slices.Concat(nearlyRanks(list[0]), nearlyRanks(list[2])) {
			if isRanks(q) {
				list = append(list, q)
			}
		}
		for i, q := range smallRanks()[r.holders()] {
			// For three holders, these are all ranks of up to 2, with three units.
			if r.holders() < 4 || i%7 == 0 {
				list = append(list, q)
			}
		}
		for _, q := range list {
			if checkFits(t, q, r, f) {
				fits++
			} else {
				not++
			}
			if len(misfits(q, r)) > 1 {
				several++
			}
		}
	})
	if fits < 1000 || not < 1000 || several < 1000 {
		t.Errorf("%d ranks that fit, %d that do not, and %d with several misfits are too few", fits, not, several)
	}
}

// TestPromise14FirstMisfit has ranks with a misfit of one kind, or of both, in the order of numbers, which is not that of lists.
func TestPromise14FirstMisfit(t *testing.T) {
	pair := family(2, []int64{0, 1})
	expect(t, "growth", show(impl.FirstMisfit(ranksOf(1, 0, 1, 1, 1), pair)), []int64{0}, []int64{0, 1}, impl.OK)
	expect(t, "growth from the empty group", show(impl.FirstMisfit(ranksOf(2, 0, 1, 1, 1), pair)), []int64{}, []int64{0, 1}, impl.OK)
	either := family(2, []int64{0}, []int64{1})
	expect(t, "meeting", show(impl.FirstMisfit(ranksOf(1, 0, 1, 1, 2), either)), []int64{0}, []int64{1}, impl.OK)
	expect(t, "growth before meeting", show(impl.FirstMisfit(ranksOf(3, 0, 1, 1, 2), either)), []int64{}, []int64{0}, impl.OK)
	// The list of A and B comes before that of B, but their number behind it.
	expect(t, "the first group", show(impl.FirstMisfit(ranksOf(1, 0, 0, 1, 1, 0, 0, 1, 1), family(3, []int64{0, 1, 2}))), []int64{1}, []int64{0, 1, 2}, impl.OK)
	expect(t, "the second group", show(impl.FirstMisfit(ranksOf(1, repeat(int64(0), 8)...), family(3, []int64{0, 2}, []int64{1}))), []int64{}, []int64{1}, impl.OK)
	expect(t, "the first group of a meeting", show(impl.FirstMisfit(ranksOf(1, 0, 2, 1, 2, 1, 2, 2, 2), family(3, []int64{0}, []int64{1}, []int64{2}))), []int64{1}, []int64{2}, impl.OK)
	expect(t, "a single holder", show(impl.FirstMisfit(ranksOf(2, 0, 1), family(1, []int64{0}))), []int64{}, []int64{0}, impl.OK)
	expect(t, "a single holder who has enough", show(impl.FirstMisfit(ranksOf(2, 0, 2), family(1, []int64{0}))), []int64{}, []int64{}, impl.ErrNotFound)
}

// TestPromise14GreatRanks has ranks that would be greater than MaxRank together with the secret, and such as just reach it.
func TestPromise14GreatRanks(t *testing.T) {
	first := family(2, []int64{0})
	for _, x := range []struct {
		ranks impl.Ranks
		a, b  []int64
		code  int64
	}{
		{ranksOf(100000, 0, 100000, 0, 100000), nil, nil, impl.ErrNotFound},
		{ranksOf(50000, 0, 50000, 50000, 100000), nil, nil, impl.ErrNotFound},
		{ranksOf(50001, 0, 50001, 50000, 100000), []int64{1}, []int64{0, 1}, impl.OK},
		{ranksOf(100000, 0, 100000, 1, 100000), []int64{1}, []int64{0, 1}, impl.OK},
		{ranksOf(100000, 0, 99999, 100000, 100000), nil, []int64{0}, impl.OK},
		{ranksOf(1, 0, 1, 100000, 100000), []int64{1}, []int64{0, 1}, impl.OK},
	} {
		expect(t, "FirstMisfit of "+show(x.ranks), show(impl.FirstMisfit(x.ranks, first)), append([]int64{}, x.a...), append([]int64{}, x.b...), x.code)
		expect(t, "FitsFamily of "+show(x.ranks), show(impl.FitsFamily(x.ranks, first)), x.code == impl.ErrNotFound, impl.OK)
	}
}

func TestPromise14FitErrors(t *testing.T) {
	codes := func(r impl.Ranks, f impl.Family) string {
		fits, one := impl.FitsFamily(r, f)
		a, b, two := impl.FirstMisfit(r, f)
		dual, three := impl.DualRanks(r, f)
		return show(fits, one, a, b, two, dual, three)
	}
	for holders := int64(1); holders <= 5; holders++ {
		r := keptRanks(ruleOf(family(holders, countTo(holders))))
		for name, x := range refusedFamilies() {
			expect(t, name, codes(r, x.family), false, x.code, []int64{}, []int64{}, x.code, impl.Ranks{}, x.code)
		}
		for others := int64(1); others <= 5; others++ {
			if others != holders {
				expect(t, "other holders", codes(r, family(others, []int64{0})), false, 2, []int64{}, []int64{}, 2, impl.Ranks{}, 2)
			}
		}
	}
	// A family of more holders than the ranks is refused for this first, and one that nobody opens next.
	few := ranksOf(1, 0, 1)
	expect(t, "six holders", codes(few, nobody(6)), false, 3, []int64{}, []int64{}, 3, impl.Ranks{}, 3)
	expect(t, "two holders", codes(few, nobody(2)), false, 4, []int64{}, []int64{}, 4, impl.Ranks{}, 4)
	expect(t, "ranks that do not fit", show(impl.DualRanks(ranksOf(1, 0, 1, 1, 1), family(2, []int64{0, 1}))), impl.Ranks{}, impl.ErrProof)
}

func TestPromise14Dual(t *testing.T) {
	count := 0
	rankedRules(15, func(r rule, f impl.Family) {
		dual := dualRule(r)
		for _, q := range fittingRanks(r) {
			count++
			d, code := impl.DualRanks(q, f)
			what := " of " + r.text() + show(q)
			expect(t, "DualRanks"+what, show(d, code), impl.Ranks{Holders: q.Holders, Unit: q.Unit, List: dualRanksBy(q, r)}, impl.OK)
			expect(t, "valid ranks that fit the dual"+what, show(isRanks(d), fitsBy(d, dual)), true, true)
			expect(t, "FitsFamily of the dual"+what, show(impl.FitsFamily(d, dual.family())), true, impl.OK)
		}
		for _, q := range smallRanks()[r.holders()][:12] {
			if !fitsBy(q, r) {
				expect(t, "DualRanks of ranks that do not fit "+r.text()+show(q), show(impl.DualRanks(q, f)), impl.Ranks{}, impl.ErrProof)
			}
		}
	})
	if count < 2500 {
		t.Errorf("%d ranks that fit are too few", count)
	}
}

// TestPromise14DualLimits has duals whose greatest rank is just MaxRank, or one more.
func TestPromise14DualLimits(t *testing.T) {
	either := family(2, []int64{0}, []int64{1})
	expect(t, "the greatest rank", show(impl.DualRanks(ranksOf(50000, 0, 50000, 50000, 50000), either)), ranksOf(50000, 0, 50000, 50000, 100000), impl.OK)
	expect(t, "a greater rank", show(impl.DualRanks(ranksOf(50000, 0, 50001, 50000, 50001), either)), ranksOf(50000, 0, 50000, 50000, 100000), impl.OK)
	expect(t, "one more", show(impl.DualRanks(ranksOf(50000, 0, 50001, 50001, 50001), either)), impl.Ranks{}, impl.ErrLimit)
	expect(t, "one holder", show(impl.DualRanks(ranksOf(100000, 0, 100000), family(1, []int64{0}))), ranksOf(100000, 0, 100000), impl.OK)
	each := family(5, []int64{0}, []int64{1}, []int64{2}, []int64{3}, []int64{4})
	flat := ranksOf(20000, slices.Concat([]int64{0}, repeat(int64(20000), 31))...)
	d, code := impl.DualRanks(flat, each)
	expect(t, "five holders", show(slices.Max(d.List), code), 100000, impl.OK)
	flat = ranksOf(25001, slices.Concat([]int64{0}, repeat(int64(25001), 31))...)
	expect(t, "five holders with more", show(impl.DualRanks(flat, each)), impl.Ranks{}, impl.ErrLimit)
	// Ranks that do not fit are refused for this first.
	expect(t, "ranks that do not fit", show(impl.DualRanks(ranksOf(100000, 0, 99999, 100000, 100000), either)), impl.Ranks{}, impl.ErrProof)
}

func TestPromise14Cut(t *testing.T) {
	check := func(r impl.Ranks) {
		for h := range r.Holders {
			q, code := impl.CutRanks(r, h)
			if r.Holders == 1 {
				expect(t, "the only holder", show(q, code), impl.Ranks{}, impl.ErrRange)
				continue
			}
			wanted := impl.Ranks{Holders: r.Holders - 1, Unit: r.Unit}
			for mask := range 1 << wanted.Holders {
				wanted.List = append(wanted.List, r.List[withRoom(mask, int(h))])
			}
			expect(t, "CutRanks of "+show(r, h), show(q, code), wanted, impl.OK)
			expect(t, "its validity", show(isRanks(q), impl.ValidRanks(q)), true, true)
		}
		for _, h := range []int64{math.MinInt64, -1, r.Holders, r.Holders + 1, 5, 6, 64, math.MaxInt64} {
			expect(t, "no holder", show(impl.CutRanks(r, h)), impl.Ranks{}, impl.ErrRange)
		}
	}
	for holders := 1; holders <= 5; holders++ {
		for i, r := range smallRanks()[holders] {
			if i%5 == 0 {
				check(r)
			}
		}
	}
	check(ranksOf(100000, 0, 100000, 99999, 100000, 1, 100000, 100000, 100000))
}

// TestPromise14WithoutHolder checks that what is left of ranks that fit still fits what is left of the family.
func TestPromise14WithoutHolder(t *testing.T) {
	rankedRules(31, func(r rule, f impl.Family) {
		if r.holders() == 1 {
			return
		}
		for h := range r.holders() {
			fewer := withoutOf(r, h)
			for _, q := range fittingRanks(r)[:4] {
				cut, code := impl.CutRanks(q, int64(h))
				expect(t, "CutRanks", show(code), impl.OK)
				if opensSomehow(fewer) {
					expect(t, "the fit of "+show(cut)+" to "+fewer.text(), show(impl.FitsFamily(cut, fewer.family())), true, impl.OK)
				}
			}
		}
	})
}

func TestPromise14Add(t *testing.T) {
	for holders := 1; holders <= 5; holders++ {
		list := smallRanks()[holders]
		for i, r := range list {
			q := list[i*7%len(list)]
			sum, code := impl.AddRanks(r, q)
			expect(t, "AddRanks of "+show(r, q), show(sum, code), sumOfRanks(r, q), impl.OK)
			expect(t, "its validity", show(isRanks(sum)), true)
			for others := 1; others <= 5; others++ {
				if others != holders && i < 3 {
					expect(t, "other holders", show(impl.AddRanks(r, smallRanks()[others][i])), impl.Ranks{}, impl.ErrRange)
				}
			}
		}
	}
	rankedRules(31, func(r rule, f impl.Family) {
		list := fittingRanks(r)
		sum, _ := impl.AddRanks(list[0], list[len(list)-1])
		expect(t, "the fit of a sum", show(impl.FitsFamily(sum, f)), true, impl.OK)
	})
	r := ranksOf(50000, 0, 50000, 40000, 50000)
	expect(t, "the greatest sums", show(impl.AddRanks(r, r)), ranksOf(100000, 0, 100000, 80000, 100000), impl.OK)
	for _, q := range []impl.Ranks{ranksOf(50001, 0, 0, 0, 0), ranksOf(1, 0, 50001, 0, 50001), ranksOf(1, 0, 0, 0, 50001), ranksOf(100000, 0, 100000, 100000, 100000)} {
		if isRanks(q) {
			expect(t, "too great a sum", show(impl.AddRanks(r, q)), impl.Ranks{}, impl.ErrLimit)
			expect(t, "too great a sum", show(impl.AddRanks(q, r)), impl.Ranks{}, impl.ErrLimit)
		}
	}
	expect(t, "the last group alone", show(impl.AddRanks(ranksOf(1, 0, 60000, 40000, 100000), ranksOf(1, 0, 0, 1, 1))), impl.Ranks{}, impl.ErrLimit)
	expect(t, "other holders first", show(impl.AddRanks(ranksOf(100000, 0, 100000), r)), impl.Ranks{}, impl.ErrRange)
}

func TestPromise14RanksFamily(t *testing.T) {
	for holders := 1; holders <= 5; holders++ {
		for i, r := range smallRanks()[holders] {
			if holders < 4 && i%9 > 0 {
				continue
			}
			for whole := range r.List {
				wanted := newRule(holders, func(mask int) bool { return r.List[mask|whole] == r.List[mask] })
				expect(t, "RanksFamily of "+show(r, whole), show(impl.RanksFamily(r, members(whole))), wanted.family(), impl.OK)
			}
			for _, group := range brokenGroups(int64(holders)) {
				expect(t, "RanksFamily of no group", show(impl.RanksFamily(r, group)), impl.Family{}, impl.ErrRange)
			}
		}
	}
}

func TestPromise14Ratio(t *testing.T) {
	for holders := 1; holders <= 5; holders++ {
		for _, r := range smallRanks()[holders] {
			for unit := int64(1); unit <= 12; unit++ {
				greatest := int64(0)
				for h := range holders {
					greatest = max(greatest, r.List[1<<h])
				}
				a, b, code := impl.RatioOf(impl.Ranks{Holders: r.Holders, Unit: unit, List: r.List})
				lowest := true
				for d := int64(2); d <= max(a, b); d++ {
					lowest = lowest && (a%d != 0 || b%d != 0)
				}
				expect(t, "RatioOf of "+show(r, unit), show(a*unit == b*greatest, a >= 0, b >= 1, lowest, code), true, true, true, true, impl.OK)
			}
		}
	}
	expect(t, "nothing", show(impl.RatioOf(ranksOf(7, 0, 0))), 0, 1, impl.OK)
	expect(t, "much", show(impl.RatioOf(ranksOf(75000, 0, 2, 100000, 100000))), 4, 3, impl.OK)
	expect(t, "no common divisor", show(impl.RatioOf(ranksOf(100000, 0, 99999))), 99999, 100000, impl.OK)
	expect(t, "more together than one", show(impl.RatioOf(ranksOf(4, 0, 1, 2, 3, 2, 3, 4, 5))), 1, 2, impl.OK)
}
