package tests

import (
	"fmt"
	"slices"
	"strings"
	"testing"

	"loop.example/g01117/impl"
)

// checkGuarantees checks what the document promises of a ceremony, whatever has been done.
func checkGuarantees(t *testing.T, what string, d impl.Deal, list []impl.Deed, liars int, opens rule) {
	t.Helper()
	c, _, code := impl.CeremonyAfter(d, list)
	expect(t, what+": the code", show(code), impl.OK)
	named, has := maskWhere(c.Opener.Named), maskWhere(c.Opener.Has)
	if named&^liars != 0 || named&has != 0 {
		t.Errorf("%s: %v are named, %v have lied, and there are values of %v", what, members(named), members(liars), members(has))
	}
	secret, code := impl.OpenAfter(d, list)
	switch {
	case !isStrict(d):
	case opens[has]:
		expect(t, what+": OpenAfter", show(secret, code), d.Secret, impl.OK)
	default:
		expect(t, what+": OpenAfter", show(secret, code), 0, impl.ErrNotFound)
	}
	checkPurses(t, what, d, c)
}

// checkPurses checks that all purses and packets have what has been dealt, and that nobody is ahead of the dealer.
func checkPurses(t *testing.T, what string, d impl.Deal, c impl.Ceremony) {
	t.Helper()
	check := func(h int64, back bool, p impl.Purse) {
		t.Helper()
		values, tags := []int64{}, []int64{}
		if p.Epoch != -1 {
			values = valuesBy(d, p.Epoch, h)
			tags = tagsBy(d, p.Epoch, h, values)
		}
		if back && len(p.Values) > 0 && len(values) > 0 {
			values[0] = p.Values[0] // The first one may be a lie.
		}
		expect(t, what+": values and tags", show(p.Values, p.Tags), values, tags)
		if p.Epoch > c.Epoch {
			t.Errorf("%s: %v is ahead of the epoch %d", what, p, c.Epoch)
		}
	}
	for h, seat := range c.Seats {
		check(int64(h), false, seat.Purse)
		check(int64(h), false, seat.Saved)
	}
	for _, p := range c.Wire {
		check(p.Holder, p.Back, impl.Purse{Epoch: p.Epoch, Values: p.Values, Tags: p.Tags})
	}
	for h, values := range c.Opener.Got {
		if c.Opener.Has[h] {
			check(int64(h), true, impl.Purse{Epoch: c.Opener.Epoch, Values: values, Tags: tagsBy(d, c.Opener.Epoch, int64(h), valuesBy(d, c.Opener.Epoch, int64(h)))})
		} else {
			expect(t, what+": values of a holder that is not there", show(values), []int64{})
		}
	}
}

// TestPromise18Ceremonies does arbitrary deeds in ceremonies of all sizes.
func TestPromise18Ceremonies(t *testing.T) {
	draw := drawer(82)
	counts := map[string]int{}
	for i, d := range slices.Repeat(someDeals(), 3) {
		opens := ruleOfScheme(d.Scheme)
		w, codes := newWorld(d), []int64{}
		list := someDeeds(draw, d, int(20+draw(60)))
		for k, deed := range list {
			next, code := w.after(deed)
			w, codes = next, append(codes, code)
			if k%19 == 0 || k == len(list)-1 {
				what := fmt.Sprintf("the deal %d", i)
				checkAfter(t, what, list[:k+1], w, codes)
				checkGuarantees(t, what, d, list[:k+1], w.liars, opens)
			}
		}
		counts["refused"] += len(codes) - len(slices.DeleteFunc(codes, func(code int64) bool { return code != 0 }))
		secret, code := w.open()
		switch {
		case code == impl.OK && secret == d.Secret:
			counts["opened"]++
		case code == impl.OK:
			counts["opened to something else"]++
		default:
			counts[impl.CodeName(code)]++
		}
		if w.named() != 0 {
			counts["named"]++
		}
	}
	for _, what := range []string{"opened", "opened to something else", "notfound", "state", "named", "refused"} {
		if counts[what] < 5 {
			t.Errorf("%d times %s: %v", counts[what], what, counts)
		}
	}
}

// TestPromise18LongCeremonies does as many deeds as there may be.
func TestPromise18LongCeremonies(t *testing.T) {
	draw := drawer(83)
	for i, d := range someDeals() {
		if i%40 > 0 {
			continue
		}
		list := someDeeds(draw, d, 400)
		w, codes := newWorld(d).afterAll(list)
		what := fmt.Sprintf("400 deeds of the deal %d", i)
		checkAfter(t, what, list, w, codes)
		checkGuarantees(t, what, d, list, w.liars, ruleOfScheme(d.Scheme))
	}
}

// TestPromise18OnlyLiars follows holders that lie, or could, and whether they are named.
func TestPromise18OnlyLiars(t *testing.T) {
	d := exampleDeal(4)
	start := all("give 0, deliver 0")
	// A lie in the epoch that the opener does not know of yet, and a name that stays.
	tell(t, d, slices.Concat(start, all("lie 0 1, hand 0"), []string{"named: -", "deliver 0: ok", "named: A", "has: -", "open: error notfound"},
		all("lie 0 0, hand 0, deliver 0"), []string{"named: A", "has: -"}, all("renew, give 0, deliver 0, hand 0, deliver 0"), []string{"named: A", "has: -", "epoch: 1"},
		all("give 1, deliver 0, hand 1, deliver 0, give 2, deliver 0, hand 2, deliver 0"), []string{"has: BC", "named: A", "open: 4"})...)
	// A lie of 0 is none; one that is not handed, or has been taken back before, is none either.
	tell(t, d, slices.Concat(start, all("lie 0 0, hand 0, deliver 0"), []string{"has: A", "named: -"})...)
	tell(t, d, slices.Concat(start, all("lie 0 4, lie 0 0, hand 0, deliver 0"), []string{"has: A", "named: -"})...)
	tell(t, d, slices.Concat(start, all("lie 0 4, hand 0, drop 0, lie 0 0, hand 0, deliver 0"), []string{"has: A", "named: -"})...)
	// What has been handed before it lies is no lie, and what has been handed as a lie stays one.
	tell(t, d, slices.Concat(start, all("hand 0, lie 0 1, deliver 0"), []string{"has: A", "named: -"})...)
	tell(t, d, slices.Concat(start, all("lie 0 1, hand 0, lie 0 0, deliver 0"), []string{"has: -", "named: A"})...)
	// It lies on until it is told otherwise, even after a crash and in a later epoch.
	tell(t, d, slices.Concat(start, all("lie 0 1, save 0, crash 0, hand 0, deliver 0"), []string{"has: -", "named: A"})...)
	tell(t, d, slices.Concat(all("lie 0 1, give 0, deliver 0, renew, give 0, deliver 0, hand 0, deliver 0"), []string{"has: -", "named: A"})...)
	// Whose values are there is not named for a lie of the same epoch, but for one of a later epoch.
	tell(t, d, slices.Concat(start, all("hand 0, lie 0 1, hand 0, deliver 0, deliver 0"), []string{"has: A", "named: -"},
		all("renew, give 0, deliver 0, hand 0, deliver 0"), []string{"has: -", "named: A"})...)
	// Several are named, and others have nothing to do with it.
	tell(t, d, slices.Concat(all("give 0, give 1, give 2, deliver 0, deliver 0, deliver 0, lie 2 3, lie 0 2, hand 0, hand 1, hand 2, copy 2, copy 1, copy 0"), []string{"has: B", "named: AC", "open: error notfound"})...)
}

// TestPromise18Epochs follows packets of an earlier, the same and a later epoch to the opener.
func TestPromise18Epochs(t *testing.T) {
	d := exampleDeal(4)
	both := all("give 0, deliver 0, give 1, deliver 0")
	// An earlier epoch: neither values nor a lie count.
	tell(t, d, slices.Concat(both, all("hand 0, renew, give 1, deliver 1, hand 1, deliver 1"), []string{"has: B"}, all("deliver 0"), []string{"has: B", "named: -"})...)
	tell(t, d, slices.Concat(both, all("lie 0 1, hand 0, renew, give 1, deliver 1, hand 1, deliver 1"), []string{"has: B"}, all("deliver 0"), []string{"has: B", "named: -"})...)
	// A later epoch: the values of the one before are gone, even if it brings a lie, or comes from one that is named.
	tell(t, d, slices.Concat(both, all("hand 0, hand 1, deliver 0, deliver 0"), []string{"has: AB", "open: 4"}, all("renew, give 1, deliver 0, hand 1, deliver 0"), []string{"has: B", "open: error notfound"},
		all("hand 0, deliver 0"), []string{"has: B"}, all("give 0, deliver 0, hand 0, deliver 0"), []string{"has: AB", "open: 4"})...)
	tell(t, d, slices.Concat(both, all("hand 0, deliver 0, renew, give 1, deliver 0, lie 1 2, hand 1, deliver 0"), []string{"has: -", "named: B"}, all("hand 0, deliver 0"), []string{"has: -", "named: B"})...)
	tell(t, d, slices.Concat(both, all("lie 1 2, hand 1, hand 0, deliver 0, deliver 0"), []string{"has: A", "named: B"}, all("renew, give 1, deliver 0, hand 1, deliver 0"), []string{"has: -", "named: B"})...)
	// Epochs may be left out, and the dealer may be ahead.
	tell(t, d, slices.Concat(both, all("renew, renew, give 0, deliver 0, hand 0, deliver 0, hand 1, deliver 0"), []string{"has: A", "epoch: 2"}, all("renew, hand 0, deliver 0"), []string{"has: A", "epoch: 3"})...)
	c, done, code := impl.CeremonyAfter(d, deeds("renew", "renew", "give 1", "renew", "deliver 0", "hand 1", "copy 0"))
	expect(t, "the opener's epoch", show(c.Epoch, c.Seats[1].Purse, c.Opener, done, code), 3, impl.Purse{Epoch: 2, Values: []int64{4}, Tags: []int64{1}},
		impl.Opener{Epoch: 2, Got: [][]int64{{}, {4}, {}}, Has: []bool{false, true, false}, Named: []bool{false, false, false}}, 7, impl.OK)
}

// TestPromise18Beginning is about ceremonies in which nothing has been done.
func TestPromise18Beginning(t *testing.T) {
	for i, d := range tinyDeals() {
		n := int(d.Scheme.Holders)
		nothing := impl.Purse{Epoch: -1}
		none := impl.Ceremony{Seats: repeat(impl.Seat{Purse: nothing, Saved: nothing}, n), Opener: impl.Opener{Epoch: -1, Got: make([][]int64, n), Has: make([]bool, n), Named: make([]bool, n)}}
		for _, list := range [][]impl.Deed{nil, {}} {
			what := fmt.Sprintf("nothing done in the deal %d", i)
			c, done, code := impl.CeremonyAfter(d, list)
			expect(t, what, show(c, done, code), none, 0, impl.OK)
			expect(t, what, show(len(c.Seats), len(c.Opener.Got), len(c.Opener.Has), len(c.Opener.Named), len(c.Wire)), n, n, n, n, 0)
			expect(t, what, show(impl.RefusedDeed(d, list)), 0, 0, impl.ErrNotFound)
			expect(t, what, show(impl.NamedAfter(d, list)), []int64{}, impl.OK)
			expect(t, what, show(impl.OpenAfter(d, list)), 0, impl.ErrNotFound)
			expect(t, what, show(impl.GatherDeeds(d, list, nil)), []impl.Deed{}, impl.OK)
		}
	}
}

// TestPromise18LiesThatPass: with a key whose first element is 0, the opener finds another secret, or that the values are not consistent.
func TestPromise18LiesThatPass(t *testing.T) {
	d := exampleDeal(2)
	d.Keys[0] = [][]int64{{0, 3}, {2, 3}, {2, 3}}
	hands := all("give 0, give 1, give 2, deliver 0, deliver 0, deliver 0, lie 0 1, hand 0, hand 2, hand 1")
	tell(t, d, slices.Concat(hands, all("deliver 0, deliver 0"), []string{"has: AC", "named: -", "open: 3"}, all("deliver 0"), []string{"has: ABC", "named: -", "open: error state"})...)
	tell(t, d, slices.Concat(hands, all("copy 1, copy 2"), []string{"has: BC", "open: 4"})...)
	tell(t, d, slices.Concat(hands, all("copy 0, copy 1, renew, give 0, deliver 3, hand 0, deliver 3"), []string{"has: -", "named: A", "open: error notfound"})...)
	for lie := range int64(5) {
		list := append(deeds("give 0", "deliver 0", "give 2", "deliver 0", "hand 0", "hand 2", "deliver 1"), deeds(fmt.Sprintf("lie 0 %d", lie), "drop 0", "hand 0", "deliver 0")...)
		expect(t, fmt.Sprintf("OpenAfter the lie %d", lie), show(impl.OpenAfter(d, list)), (4+4*lie)%5, impl.OK)
	}
}

// TestPromise18WithoutRows: a holder without rows hands empty lists, whatever its lie is.
func TestPromise18WithoutRows(t *testing.T) {
	d := impl.Deal{Scheme: scheme("scheme 3 5 1\nrow B 3\nrow B 2\n"), Secret: 2, Blinds: [][]int64{{}, nil}, Keys: [][][]int64{{{1, 0}, {0, 4}}, {{4, 4}, {1, 1}}}}
	tell(t, d, slices.Concat(all("give 0, deliver 0, lie 0 3, hand 0, deliver 0, give 1, deliver 0, hand 1"), []string{"has: A", "named: -", "open: error notfound"}, all("deliver 0"), []string{"has: AB", "named: -", "open: 2"})...)
	c, _, _ := impl.CeremonyAfter(d, deeds("renew", "give 0", "copy 0", "lie 0 4", "hand 0", "copy 1"))
	empty := impl.Purse{Epoch: 1}
	expect(t, "the ceremony", show(c.Seats[0], c.Opener.Epoch, c.Opener.Got, c.Opener.Has, c.Wire), impl.Seat{Purse: empty, Saved: impl.Purse{Epoch: -1}, Lie: 4}, 1, [][]int64{{}, {}, {}}, []bool{true, false, false},
		[]impl.Packet{{Holder: 0, Epoch: 1}, {Back: true, Holder: 0, Epoch: 1}})
	expect(t, "GatherDeeds", show(impl.GatherDeeds(d, deeds("lie 0 4"), []int64{0})), []impl.Deed{}, impl.ErrState)
	// A scheme without rows is opened by nobody.
	d = impl.Deal{Scheme: scheme("scheme 2 3 2\n"), Secret: 1, Blinds: [][]int64{{2}}, Keys: [][][]int64{{}}}
	plan, code := impl.GatherDeeds(d, nil, []int64{0, 1})
	expect(t, "all holders", show(len(plan), code), 10, impl.OK)
	expect(t, "OpenAfter", show(impl.OpenAfter(d, plan)), 0, impl.ErrNotFound)
}

// TestPromise18RowsInOrder: the rows of a holder need not follow each other, and the values are rebuilt in the order of the rows.
func TestPromise18RowsInOrder(t *testing.T) {
	d := impl.Deal{Scheme: scheme("scheme 2 5 3\nrow B 1 1 0\nrow A 1 0 2\nrow B 0 1 1\nrow A 0 0 1\nrow B 0 1 0\n"), Secret: 3, Blinds: [][]int64{{1, 4}}, Keys: [][][]int64{repeat([]int64{1, 2}, 5)}}
	c, _, _ := impl.CeremonyAfter(d, deeds("give 0", "give 1", "deliver 1", "deliver 0", "hand 0", "lie 1 0", "hand 1", "copy 1", "copy 0"))
	expect(t, "values and tags", show(c.Opener.Got, c.Seats[0].Purse.Tags, c.Seats[1].Purse.Tags), [][]int64{{1, 4}, {4, 0, 1}}, []int64{3, 1}, []int64{1, 2, 3})
	expect(t, "OpenAfter", show(impl.OpenAfter(d, deeds("give 0", "give 1", "deliver 1", "deliver 0", "hand 0", "hand 1", "copy 1", "copy 0"))), 3, impl.OK)
	// Only the first value has the lie.
	c, _, _ = impl.CeremonyAfter(d, deeds("give 1", "deliver 0", "lie 1 2", "hand 1"))
	expect(t, "the packet", show(c.Wire), []impl.Packet{{Back: true, Holder: 1, Values: []int64{1, 0, 1}, Tags: []int64{1, 2, 3}}})
	expect(t, "the purse", show(c.Seats[1].Purse), impl.Purse{Values: []int64{4, 0, 1}, Tags: []int64{1, 2, 3}})
}

func TestPromise18Gather(t *testing.T) {
	draw := drawer(84)
	counts := map[int64]int{}
	for i, d := range someDeals() {
		opens := ruleOfScheme(d.Scheme)
		for range 3 {
			list := someDeeds(draw, d, int(draw(40)))
			w, _ := newWorld(d).afterAll(list)
			masks := countTo(1 << d.Scheme.Holders)
			if len(masks) > 8 {
				masks = []int64{0, int64(len(masks) - 1), draw(int64(len(masks))), draw(int64(len(masks)))}
			}
			for _, mask := range masks {
				counts[checkGather(t, fmt.Sprintf("the deal %d after %v", i, deedTexts(list)), w, list, int(mask), opens)]++
			}
		}
	}
	if counts[impl.OK] < 500 || counts[impl.ErrState] < 500 {
		t.Errorf("codes: %v", counts)
	}
}

// checkGather checks GatherDeeds for a group, and what the opener has behind the deeds.
func checkGather(t *testing.T, what string, w world, list []impl.Deed, mask int, opens rule) int64 {
	t.Helper()
	plan, code := w.planFor(members(mask), len(list))
	got, gotCode := impl.GatherDeeds(w.deal, list, members(mask))
	expect(t, fmt.Sprintf("%s: GatherDeeds for %v", what, members(mask)), show(got, gotCode), plan, code)
	if gotCode != impl.OK {
		return code
	}
	for _, deed := range got {
		next, refusal := w.after(deed)
		if refusal != 0 {
			t.Errorf("%s: the deed %s of the plan is refused", what, deedText(deed))
		}
		w = next
	}
	whole := slices.Concat(list, got)
	c, _, code := impl.CeremonyAfter(w.deal, whole)
	has := maskWhere(c.Opener.Has)
	expect(t, what+" and the plan", show(c, code), w.now, impl.OK)
	if mask&^has != 0 {
		t.Errorf("%s: the opener has the values of %v, not of %v", what, members(has), members(mask))
	}
	if isStrict(w.deal) && opens[mask] {
		expect(t, what+" and the plan: OpenAfter", show(impl.OpenAfter(w.deal, whole)), w.deal.Secret, impl.OK)
	}
	return impl.OK
}

func TestPromise18GatherErrors(t *testing.T) {
	d := exampleDeal(2)
	named := deeds("give 1", "deliver 0", "lie 1 1", "hand 1", "deliver 0", "lie 1 0", "lie 2 3")
	none := []impl.Deed{}
	for _, group := range [][]int64{{1}, {2}, {0, 1}, {0, 2}, {1, 2}, {0, 1, 2}} {
		expect(t, fmt.Sprint("GatherDeeds for ", group), show(impl.GatherDeeds(d, named, group)), none, impl.ErrState)
	}
	expect(t, "who is not named", show(impl.GatherDeeds(d, named, []int64{0})), deeds("give 0", "deliver 0", "save 0", "hand 0", "deliver 0"), impl.OK)
	expect(t, "the empty group", show(impl.GatherDeeds(d, append(named, deeds("give 0", "give 2")...), nil)), deeds("drop 0", "drop 0"), impl.OK)
	// It is too late to take back a lie that has been named, but not one that has not come in, or has passed.
	expect(t, "a lie that was taken back", show(impl.GatherDeeds(d, deeds("give 0", "deliver 0", "lie 0 1", "hand 0", "lie 0 0"), []int64{0})), deeds("drop 0", "give 0", "deliver 0", "save 0", "hand 0", "deliver 0"), impl.OK)
	for _, group := range brokenGroups(3) {
		expect(t, fmt.Sprint("GatherDeeds for ", group), show(impl.GatherDeeds(d, named, group)), none, impl.ErrRange)
	}
	expect(t, "no holder, behind one that is named", show(impl.GatherDeeds(d, named, []int64{1, 3})), none, impl.ErrRange)
	// Of deeds that fill all places but some, those that are refused count as well.
	fill := func(count int) []impl.Deed { return repeat(deeds("drop 999")[0], count) }
	long := append(slices.Clone(named), fill(400-len(named))...)
	expect(t, "a holder that is named comes before too many deeds", show(impl.GatherDeeds(d, long, []int64{1})), none, impl.ErrState)
	expect(t, "a group that is none comes before that", show(impl.GatherDeeds(d, long, []int64{3})), none, impl.ErrRange)
	expect(t, "one deed more comes before that", show(impl.GatherDeeds(d, append(long, long[0]), []int64{3})), none, impl.ErrRange)
	expect(t, "no deed comes before that", show(impl.GatherDeeds(d, append(long, impl.Deed{}), []int64{3})), none, impl.ErrInvalid)
	for packets := range 3 {
		start := repeat(deeds("give 0")[0], packets)
		for mask := range 8 {
			needed := packets + 5*headcount(mask)
			for _, count := range []int{400 - needed - 1, 400 - needed, min(400, 400-needed+1), 400} {
				list := append(slices.Clone(start), fill(count-packets)...)
				plan, code := impl.GatherDeeds(d, list, members(mask))
				what := fmt.Sprintf("%d deeds, and %d more", count, needed)
				if count+needed > 400 {
					expect(t, what, show(plan, code), none, impl.ErrLimit)
				} else {
					expect(t, what, show(len(plan), code), needed, impl.OK)
					_, _, code = impl.CeremonyAfter(d, append(list, plan...))
					expect(t, what, show(code), impl.OK)
				}
			}
		}
	}
}

// TestPromise18MostDeeds: 400 deeds are done, and 401 are not.
func TestPromise18MostDeeds(t *testing.T) {
	d := exampleDeal(2)
	list := append(deeds("give 0", "give 1"), repeat(deeds("copy 0")[0], 397)...)
	list = append(list, deeds("drop 9")...)
	expect(t, "the number of deeds", show(len(list)), 400)
	w, codes := newWorld(d).afterAll(list)
	checkAfter(t, "400 deeds", list, w, codes)
	expect(t, "RefusedDeed", show(impl.RefusedDeed(d, list)), 399, impl.ErrRange, impl.OK)
	for _, longer := range [][]impl.Deed{append(slices.Clone(list), list[0]), repeat(list[399], 401), repeat(list[0], 5000)} {
		checkRefused(t, "more than 400 deeds", d, longer, impl.ErrRange)
		checkRefused(t, "more than 400 deeds, and one that is none", d, append(slices.Clone(longer), impl.Deed{Kind: 10}), impl.ErrInvalid)
		checkRefused(t, "more than 400 deeds of no deal", impl.Deal{}, longer, impl.ErrInvalid)
	}
}

// checkRefused checks that all functions that are given deeds return a code.
func checkRefused(t *testing.T, what string, d impl.Deal, list []impl.Deed, code int64) {
	t.Helper()
	c, done, one := impl.CeremonyAfter(d, list)
	expect(t, what+": CeremonyAfter", show(c, done, one), impl.Ceremony{}, 0, code)
	expect(t, what+": RefusedDeed", show(impl.RefusedDeed(d, list)), 0, 0, code)
	expect(t, what+": OpenAfter", show(impl.OpenAfter(d, list)), 0, code)
	expect(t, what+": NamedAfter", show(impl.NamedAfter(d, list)), []int64{}, code)
	expect(t, what+": GatherDeeds", show(impl.GatherDeeds(d, list, []int64{-1})), []impl.Deed{}, code)
}

func TestPromise18InvalidDealsAndDeeds(t *testing.T) {
	good := deeds("give 0", "deliver 0", "hand 0")
	for i, d := range brokenDeals() {
		for _, list := range [][]impl.Deed{nil, good, {{Kind: 10}}} {
			checkRefused(t, fmt.Sprint("the broken deal ", i), d, list, impl.ErrInvalid)
		}
		expect(t, fmt.Sprint("RunScript of the broken deal ", i), show(impl.RunScript(d, strings.Repeat("\n", 30000))), "", impl.ErrInvalid)
	}
	for _, deed := range brokenDeeds() {
		for at := range len(good) + 1 {
			checkRefused(t, fmt.Sprint(deed, " at ", at), exampleDeal(2), slices.Insert(slices.Clone(good), at, deed), impl.ErrInvalid)
		}
	}
}
