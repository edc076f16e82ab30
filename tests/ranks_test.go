package tests

import (
	"fmt"
	"math"
	"math/bits"
	"slices"
	"strings"

	"loop.example/g01117/impl"
)

// The tests write ranks as lists with the rank of each group at the place of its mask, and compare the program with what follows.

func ranksOf(unit int64, list ...int64) impl.Ranks {
	return impl.Ranks{Holders: int64(bits.Len(uint(len(list))) - 1), Unit: unit, List: list}
}

// isRankList reports whether the numbers of all groups, of however many holders, are ranks by the definition.
func isRankList(list []int64) bool {
	for a := range list {
		for b := range list {
			if a&b == a && list[a] > list[b] || list[a]+list[b] < list[a|b]+list[a&b] {
				return false
			}
		}
	}
	return list[0] == 0
}

func isRanks(r impl.Ranks) bool {
	if r.Holders < 1 || r.Holders > 5 || r.Unit < 1 || r.Unit > 100000 || len(r.List) != 1<<r.Holders {
		return false
	}
	for _, rank := range r.List {
		if rank < 0 || rank > 100000 {
			return false
		}
	}
	return isRankList(r.List)
}

// rankText is the text of ranks, written without the program.
func rankText(r impl.Ranks) string {
	var b strings.Builder
	fmt.Fprintf(&b, "ranks %d %d\n", r.Holders, r.Unit)
	for mask, rank := range r.List {
		name := ""
		for _, h := range members(mask) {
			name += "ABCDE"[h : h+1]
		}
		if name == "" {
			name = "-"
		}
		fmt.Fprintf(&b, "%s %d\n", name, rank)
	}
	return b.String()
}

// fitsBy adds the secret as a further holder, behind the others.
func fitsBy(r impl.Ranks, opens rule) bool {
	list := slices.Clone(r.List)
	for mask, rank := range r.List {
		if !opens[mask] {
			rank += r.Unit
		}
		list = append(list, rank)
	}
	return isRankList(list)
}

// misfits returns the pairs of groups that show that ranks do not fit, in order.
func misfits(r impl.Ranks, opens rule) [][2]int {
	var pairs [][2]int
	for a := range r.List {
		for b := range r.List {
			grows := a&b == a && !opens[a] && opens[b] && r.List[b]-r.List[a] < r.Unit
			meets := opens[a] && opens[b] && !opens[a&b] && r.List[a]+r.List[b]-r.List[a|b]-r.List[a&b] < r.Unit
			if grows || meets {
				pairs = append(pairs, [2]int{a, b})
			}
		}
	}
	return pairs
}

func dualRanksBy(r impl.Ranks, opens rule) []int64 {
	all := len(r.List) - 1
	var list []int64
	for mask := range r.List {
		rank := r.List[all&^mask] - r.List[all]
		for _, h := range members(mask) {
			rank += r.List[1<<h]
		}
		if !opens[all&^mask] {
			rank += r.Unit
		}
		list = append(list, rank)
	}
	return list
}

func dualRule(r rule) rule {
	return newRule(r.holders(), func(mask int) bool { return !r[(len(r)-1)&^mask] })
}

// withRoom is the mask in which the holders from h on are numbered 1 higher.
func withRoom(mask, h int) int { return mask%(1<<h) + mask>>h<<(h+1) }

func withoutOf(r rule, h int) rule {
	return newRule(r.holders()-1, func(mask int) bool { return r[withRoom(mask, h)] })
}

func trustOf(r rule, h int) rule {
	return newRule(r.holders()-1, func(mask int) bool { return r[withRoom(mask, h)|1<<h] })
}

func leastMasks(r rule) []int {
	var masks []int
	for _, group := range r.family().Groups {
		masks = append(masks, maskOf(group))
	}
	return masks
}

// sharedRanks are those of a secret that is divided anew for each least group: who has several whole groups has the secret several times.
func sharedRanks(r rule) impl.Ranks {
	list := make([]int64, len(r))
	for mask := range r {
		whole := int64(0)
		for _, least := range leastMasks(r) {
			list[mask] += int64(bits.OnesCount(uint(least & mask)))
			if least&mask == least {
				whole++
			}
		}
		list[mask] -= max(0, whole-1)
	}
	return ranksOf(1, list...)
}

// keptRanks are those of a secret that is the sum of numbers, each of which all holders have but those of one greatest group that may not open.
func keptRanks(r rule) impl.Ranks {
	list := make([]int64, len(r))
	for _, least := range leastMasks(dualRule(r)) {
		for mask := range r {
			if mask&least != 0 {
				list[mask]++
			}
		}
	}
	return ranksOf(1, list...)
}

func sumOfRanks(r, q impl.Ranks) impl.Ranks {
	sum := ranksOf(r.Unit + q.Unit)
	sum.Holders = r.Holders
	for mask := range r.List {
		sum.List = append(sum.List, r.List[mask]+q.List[mask])
	}
	return sum
}

func timesRanks(times int64, r impl.Ranks) impl.Ranks {
	product := impl.Ranks{Holders: r.Holders, Unit: r.Unit * times}
	for _, rank := range r.List {
		product.List = append(product.List, rank*times)
	}
	return product
}

// fittingRanks are some ranks that fit, if somebody but not everybody opens.
func fittingRanks(r rule) []impl.Ranks {
	shared, kept := sharedRanks(r), keptRanks(r)
	list := []impl.Ranks{shared, kept, sumOfRanks(shared, kept), sumOfRanks(timesRanks(3, kept), shared)}
	for _, q := range smallRanks()[r.holders()] {
		if fitsBy(q, r) {
			list = append(list, q)
		}
	}
	return list
}

// schemeRanksBy returns the ranks of the rows of all groups in a scheme.
func schemeRanksBy(s impl.Scheme) impl.Ranks {
	var list []int64
	for mask := range 1 << s.Holders {
		span, _ := spanOf(s.Matrix.Prime, matrixHeldBy(s, mask).Rows)
		list = append(list, int64(len(span.first)))
	}
	return ranksOf(1, list...)
}

// listsOfRanks returns all lists of so many numbers, the first of which is 0.
func listsOfRanks(below int64, length int) [][]int64 {
	var lists [][]int64
	for _, list := range allLists(below, length-1) {
		lists = append(lists, slices.Concat([]int64{0}, list))
	}
	return lists
}

// matroids returns the ranks, with the Unit 1, of all matroids of so many holders: each set of groups of one size is tried as their bases.
func matroids(holders int) []impl.Ranks {
	var found []impl.Ranks
	for size := range holders + 1 {
		var groups []int
		for mask := range 1 << holders {
			if bits.OnesCount(uint(mask)) == size {
				groups = append(groups, mask)
			}
		}
		for chosen := 1; chosen < 1<<len(groups); chosen++ {
			list := make([]int64, 1<<holders)
			for mask := range list {
				for _, i := range members(chosen) {
					list[mask] = max(list[mask], int64(bits.OnesCount(uint(mask&groups[i]))))
				}
			}
			if isRankList(list) && basesOf(list, size) == bits.OnesCount(uint(chosen)) {
				found = append(found, ranksOf(1, list...))
			}
		}
	}
	return found
}

// basesOf counts the groups of a size whose rank is this.
func basesOf(list []int64, size int) int {
	count := 0
	for mask, rank := range list {
		if bits.OnesCount(uint(mask)) == size && rank == int64(size) {
			count++
		}
	}
	return count
}

var knownSmallRanks map[int][]impl.Ranks

// smallRanks returns by the number of holders all ranks that are small, or some of them, with some units.
func smallRanks() map[int][]impl.Ranks {
	if knownSmallRanks != nil {
		return knownSmallRanks
	}
	knownSmallRanks = map[int][]impl.Ranks{}
	for holders, below := range []int64{0, 4, 5, 3} {
		if holders == 0 {
			continue
		}
		for _, list := range listsOfRanks(below, 1<<holders) {
			if isRankList(list) {
				knownSmallRanks[holders] = append(knownSmallRanks[holders], ranksOf(1, list...), ranksOf(2, list...), ranksOf(3, list...))
			}
		}
	}
	draw := drawer(71)
	for holders := 4; holders <= 5; holders++ {
		all := matroids(holders)
		for range 40 {
			r := all[draw(int64(len(all)))]
			for range draw(3) {
				r = sumOfRanks(r, all[draw(int64(len(all)))])
			}
			r.Unit = 1 + draw(3)
			knownSmallRanks[holders] = append(knownSmallRanks[holders], r, spreadRanks(draw, holders))
		}
	}
	// These are the ranks of no scheme: the pairs have 3 but one, which has 4 as all greater groups.
	knownSmallRanks[4] = append(knownSmallRanks[4], ranksOf(1, 0, 2, 2, 3, 2, 3, 3, 4, 2, 3, 3, 4, 4, 4, 4, 4))
	return knownSmallRanks
}

// spreadRanks are those of things that several holders have, up to a greatest rank.
func spreadRanks(draw func(int64) int64, holders int) impl.Ranks {
	list := make([]int64, 1<<holders)
	for range 1 + draw(6) {
		owners, size := int(draw(1<<holders)), 1+draw(4)
		for mask := range list {
			if mask&owners != 0 {
				list[mask] += size
			}
		}
	}
	greatest := 1 + draw(12)
	for mask := range list {
		list[mask] = min(list[mask], greatest)
	}
	return ranksOf(1+draw(4), list...)
}

// nearlyRanks differ from ranks in one number.
func nearlyRanks(r impl.Ranks) []impl.Ranks {
	var nearly []impl.Ranks
	for mask := range r.List {
		for _, step := range []int64{-1, 1} {
			q := impl.Ranks{Holders: r.Holders, Unit: r.Unit, List: slices.Clone(r.List)}
			q.List[mask] += step
			nearly = append(nearly, q)
		}
	}
	return nearly
}

// brokenRanks are not valid, each for a reason of its own.
func brokenRanks() []impl.Ranks {
	const least, most = math.MinInt64, math.MaxInt64
	flat := func(holders, unit, rank int64, length int) impl.Ranks {
		return impl.Ranks{Holders: holders, Unit: unit, List: slices.Concat([]int64{0}, repeat(rank, length-1))}
	}
	return []impl.Ranks{
		{}, {Holders: 1, Unit: 1}, {Holders: 0, Unit: 1, List: []int64{0}}, flat(6, 1, 1, 64), flat(7, 1, 1, 128), flat(-1, 1, 1, 2), flat(least, 1, 1, 2), flat(most, 1, 1, 2), flat(63, 1, 1, 2), flat(64, 1, 1, 2), flat(65, 1, 1, 2),
		flat(2, 0, 1, 4), flat(2, -1, 1, 4), flat(2, 100001, 1, 4), flat(2, least, 1, 4), flat(2, most, 1, 4), flat(5, 100001, 1, 32),
		flat(2, 1, 1, 3), flat(2, 1, 1, 5), flat(2, 1, 1, 8), flat(2, 1, 1, 2), flat(1, 1, 1, 4), flat(1, 1, 1, 1), flat(5, 1, 1, 31), flat(5, 1, 1, 33),
		flat(2, 1, 100001, 4), flat(5, 1, 100001, 32), flat(2, 1, -1, 4), flat(2, 1, most, 4), flat(2, 1, least, 4), flat(3, 1, most/2+1, 8),
		ranksOf(1, 1, 1), ranksOf(1, -1, 0), ranksOf(1, 1, 1, 1, 1), ranksOf(1, most, most), ranksOf(1, least, 0), ranksOf(1, 1, 2, 2, 3),
		ranksOf(1, 0, 2, 1, 1), ranksOf(1, 0, 1, 2, 1), ranksOf(1, 0, 1, 1, 3), ranksOf(1, 0, 0, 0, 1), ranksOf(1, 0, 1, 1, most), ranksOf(1, 0, most, most, -2),
		ranksOf(1, 0, 1, 1, 1, 1, 1, 1, 2), ranksOf(1, 0, 1, 1, 2, 1, 2, 2, 1), ranksOf(1, 0, 1, 1, 1, 1, 1, 2, 2), ranksOf(1, 0, 50000, 50000, 100001), ranksOf(1, 0, 100001, 0, 100001),
	}
}

// rankedRules runs a check for all rules of up to 5 holders by which somebody, but not everybody, opens; of 5 holders, for each one of so many.
func rankedRules(step int, check func(r rule, f impl.Family)) {
	for holders := 1; holders <= 5; holders++ {
		for i, r := range allRules(holders) {
			if opensSomehow(r) && (holders < 5 || i%step == 0) {
				check(r, r.family())
			}
		}
	}
}

// refusedFamilies are families that this chapter refuses, with the codes.
func refusedFamilies() map[string]struct {
	family impl.Family
	code   int64
} {
	type refused = struct {
		family impl.Family
		code   int64
	}
	list := map[string]refused{
		"six holders": {family(6, []int64{0}), impl.ErrLimit}, "seven holders": {family(7, []int64{0, 6}), impl.ErrLimit},
		"nobody of six": {nobody(6), impl.ErrLimit}, "everybody of seven": {everybody(7), impl.ErrLimit},
	}
	for holders := int64(1); holders <= 5; holders++ {
		list["nobody"+show(holders)], list["everybody"+show(holders)] = refused{nobody(holders), impl.ErrState}, refused{everybody(holders), impl.ErrState}
	}
	for i, f := range brokenFamilies() {
		list["broken"+show(i)] = refused{f, impl.ErrInvalid}
	}
	return list
}
