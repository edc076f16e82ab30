package tests

import (
	"math/bits"
	"slices"
	"testing"

	"loop.example/g01117/impl"
)

// gap numbers the holders of a mask from h on 1 higher.
func gap(mask, h int) int {
	return mask>>h<<(h+1) | mask&(1<<h-1)
}

func TestPromise3Minors(t *testing.T) {
	everyRule(func(r rule, f impl.Family) {
		n := r.holders()
		if n == 1 {
			return
		}
		for h := range n {
			without := newRule(n-1, func(mask int) bool { return r[gap(mask, h)] }).family()
			trusted := newRule(n-1, func(mask int) bool { return r[gap(mask, h)|1<<h] }).family()
			expect(t, "WithoutHolder of "+show(f, h), show(impl.WithoutHolder(f, int64(h))), without, impl.OK)
			expect(t, "TrustHolder of "+show(f, h), show(impl.TrustHolder(f, int64(h))), trusted, impl.OK)
		}
	})
}

func TestPromise3OtherOrders(t *testing.T) {
	everyRule(func(r rule, f impl.Family) {
		orders := permutations(r.holders())
		for i := 0; i < len(orders); i += 1 + len(orders)/30 {
			want := newRule(r.holders(), func(mask int) bool {
				done := 0
				for _, h := range members(mask) {
					done |= 1 << orders[i][h]
				}
				return r[done]
			}).family()
			expect(t, "RenameHolders of "+show(f, orders[i]), show(impl.RenameHolders(f, orders[i])), want, impl.OK)
		}
	})
}

func TestPromise3FamiliesInPlaceOfHolders(t *testing.T) {
	for n := 1; n <= 7; n++ {
		for m := 1; n-1+m <= 7; m++ {
			for _, r := range fewRules(n) {
				for _, q := range fewRules(m) {
					for h := range n {
						checkPut(t, r, q, h)
					}
				}
			}
		}
	}
}

func fewRules(holders int) []rule {
	if holders <= 2 {
		return allRules(holders)
	}
	return someRules(holders, 8)
}

func checkPut(t *testing.T, r, q rule, h int) {
	t.Helper()
	outer := r.holders() - 1
	want := newRule(outer+q.holders(), func(mask int) bool {
		rest := gap(mask&(1<<outer-1), h)
		if q[mask>>outer] {
			rest |= 1 << h
		}
		return r[rest]
	}).family()
	expect(t, "PutFamily of "+show(r.family(), h, q.family()), show(impl.PutFamily(r.family(), int64(h), q.family())), want, impl.OK)
}

func TestPromise3Thresholds(t *testing.T) {
	for n := int64(1); n <= 7; n++ {
		for least := int64(0); least <= n+1; least++ {
			want := newRule(int(n), func(mask int) bool { return bits.OnesCount(uint(mask)) >= int(least) }).family()
			expect(t, "ThresholdFamily", show(impl.ThresholdFamily(n, least)), want, impl.OK)
		}
		expect(t, "nobody", show(impl.ThresholdFamily(n, n+1)), nobody(n), impl.OK)
		expect(t, "everybody", show(impl.ThresholdFamily(n, 0)), everybody(n), impl.OK)
		for _, least := range []int64{-1, n + 2, -1 << 63, 1<<63 - 1} {
			expect(t, "ThresholdFamily", show(impl.ThresholdFamily(n, least)), impl.Family{}, impl.ErrRange)
		}
	}
	for _, n := range []int64{0, -1, 8, -1 << 63, 1<<63 - 1} {
		expect(t, "ThresholdFamily", show(impl.ThresholdFamily(n, 0)), impl.Family{}, impl.ErrRange)
	}
}

// weightLists returns all lists of up to 4 weights from 0 to 3, and some greater ones.
func weightLists() [][]int64 {
	lists := [][]int64{{}}
	for from := 0; len(lists[from]) < 4; from++ {
		for weight := range int64(4) {
			lists = append(lists, append(slices.Clone(lists[from]), weight))
		}
	}
	return append(lists[1:], []int64{1000}, []int64{5, 4, 3, 2, 1, 1, 0}, []int64{1000, 999, 998, 1, 2, 3, 4}, repeat(int64(1000), 7))
}

func TestPromise3Weights(t *testing.T) {
	for _, weights := range weightLists() {
		sums := newSums(weights)
		greatest := sums[len(sums)-1]
		for _, quota := range []int64{0, 1, 2, 3, 4, 5, 7, 8, greatest / 2, greatest - 1, greatest, greatest + 1, 7000, 7001} {
			if quota < 0 {
				continue
			}
			want := newRule(len(weights), func(mask int) bool { return sums[mask] >= quota }).family()
			expect(t, "WeightedFamily of "+show(weights, quota), show(impl.WeightedFamily(weights, quota)), want, impl.OK)
		}
	}
	expect(t, "all weights", show(impl.WeightedFamily(repeat(int64(1000), 7), 7000)), family(7, countTo(7)), impl.OK)
	expect(t, "more than all", show(impl.WeightedFamily(repeat(int64(1000), 7), 7001)), nobody(7), impl.OK)
	expect(t, "nothing", show(impl.WeightedFamily([]int64{0}, 0)), everybody(1), impl.OK)
}

// newSums returns the sum of the weights of each group.
func newSums(weights []int64) []int64 {
	sums := make([]int64, 1<<len(weights))
	for mask := range sums {
		for _, h := range members(mask) {
			sums[mask] += weights[h]
		}
	}
	return sums
}

func TestPromise3WeightErrors(t *testing.T) {
	for _, weights := range [][]int64{nil, {}, repeat(int64(1), 8), {-1}, {1001}, {1, 1, 1, 1, 1, 1, 1001}, {0, -1 << 63}, {1<<63 - 1, 1}} {
		expect(t, "WeightedFamily", show(impl.WeightedFamily(weights, 1)), impl.Family{}, impl.ErrRange)
	}
	for _, quota := range []int64{-1, 7002, -1 << 63, 1<<63 - 1} {
		expect(t, "WeightedFamily", show(impl.WeightedFamily([]int64{1}, quota)), impl.Family{}, impl.ErrRange)
	}
}

func TestPromise3NeededAndVeto(t *testing.T) {
	everyRule(func(r rule, f impl.Family) {
		needed, veto := 0, len(r)-1
		for mask := range r {
			if r[mask] {
				veto &= mask
			}
		}
		for _, group := range f.Groups {
			needed |= maskOf(group)
		}
		expect(t, "NeededHolders of "+show(f), show(impl.NeededHolders(f)), members(needed), impl.OK)
		expect(t, "VetoHolders of "+show(f), show(impl.VetoHolders(f)), members(veto), impl.OK)
	})
}

func TestPromise3Alike(t *testing.T) {
	everyRule(func(r rule, f impl.Family) {
		var want []int64
		unused := int64(0)
		for h := range r.holders() {
			number := unused
			for like := range h {
				if alike(r, like, h) {
					number = want[like]
				}
			}
			want = append(want, number)
			unused = max(unused, number+1)
		}
		expect(t, "AlikeHolders of "+show(f), show(impl.AlikeHolders(f)), want, impl.OK)
	})
	f := family(5, []int64{0, 1}, []int64{2, 3})
	expect(t, "AlikeHolders", show(impl.AlikeHolders(f)), []int64{0, 0, 1, 1, 2}, impl.OK)
	g := family(4, []int64{0, 2}, []int64{1})
	expect(t, "AlikeHolders", show(impl.AlikeHolders(g)), []int64{0, 1, 0, 2}, impl.OK)
}

// alike reports whether two holders may be exchanged in each group.
func alike(r rule, i, k int) bool {
	for mask := range r {
		rest := mask &^ (1<<i | 1<<k)
		if r[mask] != r[rest|mask>>i&1<<k|mask>>k&1<<i] {
			return false
		}
	}
	return true
}

func TestPromise3Counts(t *testing.T) {
	everyRule(func(r rule, f impl.Family) {
		counts, swings := make([]int64, r.holders()+1), make([]int64, r.holders())
		for mask := range r {
			if r[mask] {
				counts[bits.OnesCount(uint(mask))]++
			}
			for _, h := range members(mask) {
				if r[mask] && !r[mask^1<<h] {
					swings[h]++
				}
			}
		}
		expect(t, "CountBySize of "+show(f), show(impl.CountBySize(f)), counts, impl.OK)
		expect(t, "SwingsOf of "+show(f), show(impl.SwingsOf(f)), swings, impl.OK)
	})
}

func TestPromise3NobodyAndEverybody(t *testing.T) {
	for n := int64(1); n <= 7; n++ {
		f, g := nobody(n), everybody(n)
		zeros, counts := make([]int64, n), []int64{1}
		for k := range n {
			counts = append(counts, counts[k]*(n-k)/(k+1))
		}
		for _, e := range []impl.Family{f, g} {
			expect(t, "needed", show(impl.NeededHolders(e)), []int64{}, impl.OK)
			expect(t, "alike", show(impl.AlikeHolders(e)), zeros, impl.OK)
			expect(t, "swings", show(impl.SwingsOf(e)), zeros, impl.OK)
			expect(t, "renamed", show(impl.RenameHolders(e, countTo(n))), e, impl.OK)
			expect(t, "put", show(impl.PutFamily(e, n-1, nobody(1))), e, impl.OK)
		}
		expect(t, "veto of nobody", show(impl.VetoHolders(f)), countTo(n), impl.OK)
		expect(t, "veto of everybody", show(impl.VetoHolders(g)), []int64{}, impl.OK)
		expect(t, "count of nobody", show(impl.CountBySize(f)), make([]int64, n+1), impl.OK)
		expect(t, "count of everybody", show(impl.CountBySize(g)), counts, impl.OK)
	}
}

func TestPromise3MinorErrors(t *testing.T) {
	for _, minor := range []func(impl.Family, int64) (impl.Family, int64){impl.WithoutHolder, impl.TrustHolder} {
		for _, f := range brokenFamilies() {
			for _, h := range []int64{0, -1, 9} {
				expect(t, "a broken family", show(minor(f, h)), impl.Family{}, impl.ErrInvalid)
			}
		}
		for _, f := range []impl.Family{nobody(1), everybody(1), family(1, []int64{0})} {
			expect(t, "the only holder", show(minor(f, 0)), impl.Family{}, impl.ErrState)
			expect(t, "no holder, before the only one", show(minor(f, 1)), impl.Family{}, impl.ErrRange)
			expect(t, "no holder, before the only one", show(minor(f, -1)), impl.Family{}, impl.ErrRange)
		}
		for _, h := range []int64{-1, 7, 8, -1 << 63, 1<<63 - 1} {
			expect(t, "no holder", show(minor(everybody(7), h)), impl.Family{}, impl.ErrRange)
		}
		expect(t, "the last holder", show(minor(everybody(7), 6)), everybody(6), impl.OK)
	}
}

func TestPromise3OrderErrors(t *testing.T) {
	for _, order := range [][]int64{nil, {0, 1}, {0, 1, 2, 3}, {0, 1, 1}, {0, 1, 3}, {-1, 0, 1}, {0, 1, 64}, {0, 1, -1 << 63}, {1<<63 - 1, 1, 2}} {
		expect(t, "RenameHolders", show(impl.RenameHolders(everybody(3), order)), impl.Family{}, impl.ErrRange)
		expect(t, "RenameHolders", show(impl.RenameHolders(family(3, []int64{3}), order)), impl.Family{}, impl.ErrInvalid)
	}
	for _, f := range brokenFamilies() {
		expect(t, "RenameHolders", show(impl.RenameHolders(f, countTo(3))), impl.Family{}, impl.ErrInvalid)
	}
}

func TestPromise3PutErrors(t *testing.T) {
	for _, f := range brokenFamilies() {
		for _, h := range []int64{0, -1, 9} {
			expect(t, "PutFamily into a broken one", show(impl.PutFamily(f, h, everybody(7))), impl.Family{}, impl.ErrInvalid)
			expect(t, "PutFamily of a broken one", show(impl.PutFamily(everybody(7), h, f)), impl.Family{}, impl.ErrInvalid)
		}
	}
	for _, h := range []int64{-1, 4, 5, -1 << 63, 1<<63 - 1} {
		expect(t, "no holder", show(impl.PutFamily(everybody(4), h, everybody(2))), impl.Family{}, impl.ErrRange)
		expect(t, "no holder, before too many", show(impl.PutFamily(everybody(4), h, everybody(7))), impl.Family{}, impl.ErrRange)
	}
	expect(t, "7 holders", show(impl.PutFamily(everybody(4), 3, everybody(4))), everybody(7), impl.OK)
	expect(t, "8 holders", show(impl.PutFamily(everybody(4), 3, everybody(5))), impl.Family{}, impl.ErrLimit)
	expect(t, "1 holder for 1", show(impl.PutFamily(family(1, []int64{0}), 0, nobody(7))), nobody(7), impl.OK)
	expect(t, "7 holders still", show(impl.PutFamily(nobody(7), 6, everybody(1))), nobody(7), impl.OK)
	expect(t, "8 holders", show(impl.PutFamily(nobody(7), 6, everybody(2))), impl.Family{}, impl.ErrLimit)
}

func TestPromise3WorthErrors(t *testing.T) {
	for _, f := range brokenFamilies() {
		for _, worth := range []func(impl.Family) ([]int64, int64){impl.NeededHolders, impl.VetoHolders, impl.AlikeHolders, impl.CountBySize, impl.SwingsOf} {
			expect(t, "a broken family", show(worth(f)), []int64{}, impl.ErrInvalid)
		}
	}
}
