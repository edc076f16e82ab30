package tests

import (
	"fmt"
	"slices"
	"strings"
	"testing"

	"loop.example/g01117/impl"
)

// A rule tells for each group, as the mask of its holders, whether it may open.
// The tests compute with rules what the program computes with families.
type rule []bool

func newRule(holders int, opens func(mask int) bool) rule {
	r := make(rule, 1<<holders)
	for mask := range r {
		r[mask] = opens(mask)
	}
	return r
}

func (r rule) holders() int {
	n := 0
	for 1<<n < len(r) {
		n++
	}
	return n
}

func members(mask int) []int64 {
	list := []int64{}
	for h := 0; mask>>h > 0; h++ {
		if mask>>h&1 == 1 {
			list = append(list, int64(h))
		}
	}
	return list
}

func maskOf(group []int64) int {
	mask := 0
	for _, h := range group {
		mask |= 1 << h
	}
	return mask
}

// lists returns the groups for which chosen is true in lexicographic order.
func (r rule) lists(chosen func(mask int) bool) [][]int64 {
	var groups [][]int64
	for mask := range r {
		if chosen(mask) {
			groups = append(groups, members(mask))
		}
	}
	slices.SortFunc(groups, slices.Compare)
	return groups
}

func (r rule) family() impl.Family {
	return impl.Family{Holders: int64(r.holders()), Groups: r.lists(func(mask int) bool {
		for part := range r {
			if part != mask && part&mask == part && r[part] {
				return false
			}
		}
		return r[mask]
	})}
}

// text is the text of the rule's family, written without the program.
func (r rule) text() string {
	var b strings.Builder
	fmt.Fprintf(&b, "family %d\n", r.holders())
	for _, group := range r.family().Groups {
		for _, h := range group {
			b.WriteByte("ABCDEFG"[h])
		}
		if len(group) == 0 {
			b.WriteByte('-')
		}
		b.WriteByte('\n')
	}
	return b.String()
}

func ruleOf(f impl.Family) rule {
	return newRule(int(f.Holders), func(mask int) bool {
		for _, group := range f.Groups {
			if part := maskOf(group); part&mask == part {
				return true
			}
		}
		return false
	})
}

// allRules returns the rules of all families of so many holders.
// Those with one more holder are the pairs of rules, without it and with it, of which the second opens no less.
func allRules(holders int) []rule {
	if holders == 0 {
		return []rule{{false}, {true}}
	}
	var rules []rule
	fewer := allRules(holders - 1)
	for _, without := range fewer {
		for _, with := range fewer {
			if opensNoLess(with, without) {
				rules = append(rules, slices.Concat(without, with))
			}
		}
	}
	return rules
}

func opensNoLess(r, than rule) bool {
	for mask := range r {
		if than[mask] && !r[mask] {
			return false
		}
	}
	return true
}

// someRules returns rules of so many holders: nobody, everybody, and some with arbitrary least groups.
func someRules(holders, count int) []rule {
	rules := []rule{
		newRule(holders, func(int) bool { return false }),
		newRule(holders, func(int) bool { return true }),
	}
	state := uint64(holders)
	draw := func(below int) int {
		state = state*6364136223846793005 + 1442695040888963407
		return int(state>>33) % below
	}
	for range count {
		f := impl.Family{Holders: int64(holders)}
		for range 1 + draw(9) {
			f.Groups = append(f.Groups, members(draw(1<<holders)))
		}
		rules = append(rules, ruleOf(f))
	}
	return rules
}

// everyRule runs a check for all rules of up to 4 holders, and for some of 5 to 7.
func everyRule(check func(r rule, f impl.Family)) {
	for holders := 1; holders <= impl.MaxHolders; holders++ {
		rules := someRules(holders, 40)
		if holders <= 4 {
			rules = allRules(holders)
		}
		for _, r := range rules {
			check(r, r.family())
		}
	}
}

// rulePairs runs a check for all pairs of rules of up to 3 holders, and for some pairs of 4 to 7, of as many holders each.
func rulePairs(check func(r, q rule)) {
	for holders := 1; holders <= impl.MaxHolders; holders++ {
		rules := someRules(holders, 20)
		if holders <= 3 {
			rules = allRules(holders)
		}
		for _, r := range rules {
			for _, q := range rules {
				check(r, q)
			}
		}
	}
}

// show writes values such that nil and empty slices look the same.
func show(values ...any) string {
	return fmt.Sprintf("%v", values)
}

// expect fails unless the results of a call, gathered in got, are those wanted.
func expect(t *testing.T, what string, got string, want ...any) {
	t.Helper()
	if got != show(want...) {
		t.Errorf("%s: got %s, want %s", what, got, show(want...))
	}
}

func permutations(n int) [][]int64 {
	if n == 0 {
		return [][]int64{{}}
	}
	var result [][]int64
	for _, fewer := range permutations(n - 1) {
		for at := 0; at <= len(fewer); at++ {
			result = append(result, slices.Insert(slices.Clone(fewer), at, int64(n-1)))
		}
	}
	return result
}

func countTo(n int64) []int64 {
	list := []int64{}
	for i := range n {
		list = append(list, i)
	}
	return list
}

func repeat[T any](value T, times int) []T {
	return slices.Repeat([]T{value}, times)
}

// nearlyTexts returns a text with one byte changed to, or one added from, letters, and with one byte or all from it or before it removed.
func nearlyTexts(text, letters string) []string {
	var nearly []string
	for i := 0; i <= len(text); i++ {
		for _, letter := range []byte(letters) {
			nearly = append(nearly, text[:i]+string([]byte{letter})+text[i:])
			if i < len(text) {
				nearly = append(nearly, text[:i]+string([]byte{letter})+text[i+1:])
			}
		}
		if i < len(text) {
			nearly = append(nearly, text[:i]+text[i+1:], text[:i], text[i:])
		}
	}
	return nearly
}

func nobody(holders int64) impl.Family { return impl.Family{Holders: holders} }

func everybody(holders int64) impl.Family {
	return impl.Family{Holders: holders, Groups: [][]int64{{}}}
}

func family(holders int64, groups ...[]int64) impl.Family {
	return impl.Family{Holders: holders, Groups: groups}
}

// brokenFamilies are not valid, each for a reason of its own.
func brokenFamilies() []impl.Family {
	const least, most = -1 << 63, 1<<63 - 1
	return []impl.Family{
		{},
		nobody(-1), nobody(8), nobody(least), nobody(most), everybody(0), everybody(8),
		family(3, []int64{3}), family(3, []int64{-1}), family(3, []int64{least}), family(3, []int64{most}),
		family(7, []int64{7}), family(3, []int64{1, 0}), family(3, []int64{1, 1}), family(3, []int64{0, 1, 2, 3}),
		family(3, []int64{0, 2}, []int64{0, 1}), family(3, []int64{1}, []int64{0}),
		family(3, []int64{0}, []int64{0}), family(3, []int64{}, []int64{}),
		family(3, []int64{}, []int64{0}), family(3, []int64{0}, []int64{0, 1}),
		family(3, []int64{0, 1}, []int64{1}), family(4, []int64{0, 1, 3}, []int64{0, 2}, []int64{1, 3}),
		family(3, []int64{0}, []int64{1}, []int64{3}), family(3, []int64{0}, []int64{2}, []int64{1}),
	}
}
