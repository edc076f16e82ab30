package tests

import (
	"reflect"
	"slices"
	"strings"
	"testing"

	"loop.example/g01117/impl"
)

// chapter8 lists the functions of chapter 8 by their names.
func chapter8() map[string]any {
	return map[string]any{
		"ValidDeal": impl.ValidDeal, "DealValues": impl.DealValues, "DealTags": impl.DealTags, "TagsFit": impl.TagsFit, "LiesThatPass": impl.LiesThatPass,
		"ValidDeed": impl.ValidDeed, "DeedText": impl.DeedText, "ReadDeed": impl.ReadDeed, "CeremonyAfter": impl.CeremonyAfter, "RefusedDeed": impl.RefusedDeed,
		"OpenAfter": impl.OpenAfter, "NamedAfter": impl.NamedAfter, "GatherDeeds": impl.GatherDeeds, "RunScript": impl.RunScript,
	}
}

func trialDeals() []impl.Deal {
	draw := drawer(88)
	deals := []impl.Deal{exampleDeal(1), exampleDeal(4)}
	for i, d := range brokenDeals() {
		if i%4 == 0 {
			deals = append(deals, d)
		}
	}
	for i, d := range tinyDeals() {
		if i%5 == 0 {
			deals = append(deals, d)
		}
	}
	return append(deals, dealOf(draw, someScheme(draw, 31, 7, 20, 12), 4, false), dealOf(draw, scheme("scheme 7 31 12\n"), 2, true))
}

func trialDeeds() [][]impl.Deed {
	trials := [][]impl.Deed{nil, {}, {{}}, deeds("give 0", "hand 0", "deliver 0", "copy 0", "drop 0", "lie 0 1", "save 0", "crash 0", "renew", "give 999", "lie 999 999", "renew", "renew", "renew"),
		deeds("give 0", "copy 0", "save 0", "hand 0", "copy 1", "lie 0 1", "renew", "give 0", "deliver 2", "hand 0"), repeat(deeds("give 0")[0], 400), repeat(deeds("give 0")[0], 401), repeat(impl.Deed{}, 401)}
	for _, d := range brokenDeeds() {
		trials = append(trials, append(deeds("give 0", "deliver 0"), d))
	}
	return trials
}

func TestPromise1AllArgumentsOfCeremonies(t *testing.T) {
	functions := chapter8()
	delete(functions, "TagsFit")
	tryAll(t, functions, "GatherDeeds")
	kind := reflect.TypeOf(impl.TagsFit)
	var trials [][]reflect.Value
	for i := range kind.NumIn() {
		trials = append(trials, fewTrials(trialsOf(kind.In(i)), 7))
	}
	combine(trials, func(args []reflect.Value) { tryCall(t, "TagsFit", reflect.ValueOf(impl.TagsFit), args) })
	try := trier(t, chapter8())
	for _, text := range []string{"give 0", "lie 3 1", "lie 3", "renew", "renew 0", "give 1000", "deliver 9223372036854775808", "crash \xff", strings.Repeat("lie ", 1000)} {
		try("ReadDeed", text)
	}
}

// TestPromise1CeremoniesThatFit gives places, values, tags, deeds, groups and scripts that fit the deals, so that they are not just refused.
func TestPromise1CeremoniesThatFit(t *testing.T) {
	try := trier(t, chapter8())
	draw := drawer(89)
	for i, d := range someDeals() {
		if i > len(tinyDeals()) && i%20 > 0 {
			continue
		}
		try("ValidDeal", d)
		for epoch := range int64(len(d.Blinds)) {
			h := draw(d.Scheme.Holders)
			values := valuesBy(d, epoch, h)
			try("DealValues", d, epoch, h)
			try("DealTags", d, epoch, h)
			try("LiesThatPass", d, epoch, h)
			try("TagsFit", d, epoch, h, values, tagsBy(d, epoch, h, values))
			try("TagsFit", d, epoch, h, values, values)
		}
		for range 4 {
			list := someDeeds(draw, d, int(draw(60)))
			w, _ := newWorld(d).afterAll(list)
			try("CeremonyAfter", d, list)
			try("RefusedDeed", d, list)
			try("OpenAfter", d, list)
			try("NamedAfter", d, list)
			try("GatherDeeds", d, list, members(w.has()))
			try("GatherDeeds", d, list, members(int(draw(1<<d.Scheme.Holders))))
			try("RunScript", d, strings.Join(deedTexts(list), "\nhas\n"))
		}
	}
}

// TestPromise1CeremoniesShareNothing gives the same memory in several places, and writes into all results.
func TestPromise1CeremoniesShareNothing(t *testing.T) {
	list := []int64{1, 2}
	d := impl.Deal{Scheme: schemeOf(3, list, matrixOf(5, 2, list, list)), Secret: 1, Blinds: [][]int64{{3}, {3}}, Keys: repeat(repeat(list, 2), 2)}
	before := show(d)
	done := deeds("give 1", "copy 0", "save 1", "hand 1", "copy 1", "give 2", "copy 2", "copy 2", "save 2", "hand 2", "copy 3")
	first, count, code := impl.CeremonyAfter(d, done)
	wanted := show(first, count, code)
	expect(t, "the ceremony", show(len(first.Wire), maskWhere(first.Opener.Has), count, code), 4, 6, 11, impl.OK)
	spans := spansOf(reflect.ValueOf(first))
	if overlap(spans, spansOf(reflect.ValueOf(d))) || len(spans) < 20 {
		t.Errorf("%v shares memory with its argument or itself", first)
	}
	// What is written into one list is in no other one: each of them gets a number of its own.
	mark := int64(100)
	var lists [][]int64
	for _, seat := range first.Seats {
		lists = append(lists, seat.Purse.Values, seat.Purse.Tags, seat.Saved.Values, seat.Saved.Tags)
	}
	for _, p := range first.Wire {
		lists = append(lists, p.Values, p.Tags)
	}
	for _, numbers := range append(lists, first.Opener.Got...) {
		for i := range numbers {
			mark++
			numbers[i] = mark
		}
		_ = append(numbers, 99)
	}
	different := map[int64]bool{}
	for _, numbers := range append(lists, first.Opener.Got...) {
		for _, n := range numbers {
			different[n] = true
		}
	}
	expect(t, "numbers that have been written", show(len(different)), mark-100)
	clear(first.Seats)
	clear(first.Wire)
	clear(first.Opener.Has)
	clear(first.Opener.Named)
	if after := show(d); after != before {
		t.Errorf("the deal was %s, and is %s", before, after)
	}
	if again := show(impl.CeremonyAfter(d, done)); again != wanted {
		t.Errorf("the ceremony was %s, and once more %s", wanted, again)
	}
	// One list is the values, the tags and the rows of the scheme.
	expect(t, "TagsFit", show(impl.TagsFit(d, 0, 1, list[:1], list[:1])), false, impl.OK)
	plan, code := impl.GatherDeeds(d, done, list)
	expect(t, "GatherDeeds", show(len(plan), code), 14, impl.OK)
	clear(plan)
	expect(t, "the deeds and the deal", show(deedTexts(done)[0], list, d), "give 1", []int64{1, 2}, d)
}

// TestPromise1NilIsEmptyInCeremonies gives nil and empty slices, which are to count as the same.
func TestPromise1NilIsEmptyInCeremonies(t *testing.T) {
	s := schemeOf(2, nil, matrixOf(5, 1))
	for _, none := range [][]int64{nil, {}} {
		for _, noKeys := range [][][]int64{nil, {}} {
			d := impl.Deal{Scheme: s, Secret: 4, Blinds: [][]int64{none}, Keys: [][][]int64{noKeys}}
			expect(t, "ValidDeal", show(impl.ValidDeal(d)), true)
			expect(t, "DealValues", show(impl.DealValues(d, 0, 0)), []int64{}, impl.OK)
			expect(t, "TagsFit", show(impl.TagsFit(d, 0, 0, none, []int64{})), true, impl.OK)
			expect(t, "TagsFit", show(impl.TagsFit(d, 0, 1, nil, none)), true, impl.OK)
			expect(t, "LiesThatPass", show(impl.LiesThatPass(d, 0, 1)), countTo(5), impl.OK)
			expect(t, "GatherDeeds", show(impl.GatherDeeds(d, nil, none)), []impl.Deed{}, impl.OK)
			expect(t, "GatherDeeds", show(impl.GatherDeeds(d, []impl.Deed{}, none)), []impl.Deed{}, impl.OK)
			expect(t, "ValidDeal", show(impl.ValidDeal(impl.Deal{Scheme: s, Blinds: noKeys, Keys: [][][]int64{}}), impl.ValidDeal(impl.Deal{Scheme: s, Blinds: [][]int64{}, Keys: nil})), false, false)
		}
	}
}

func TestPromise1HugeCeremonies(t *testing.T) {
	const many = 1_000_000
	good, list := exampleDeal(2), countTo(many)
	for _, change := range []func(d *impl.Deal){
		func(d *impl.Deal) { d.Blinds[0] = list }, func(d *impl.Deal) { d.Keys[0][0] = list }, func(d *impl.Deal) { d.Keys[1] = repeat([]int64{0, 0}, many/4) }, func(d *impl.Deal) { d.Keys = repeat([][]int64{}, many) },
		func(d *impl.Deal) { d.Blinds = repeat([]int64{0}, many/2) }, func(d *impl.Deal) {
			d.Blinds, d.Keys = repeat([]int64{0}, many/16), repeat(repeat([]int64{0, 0}, 3), many/16)
		},
		func(d *impl.Deal) { d.Scheme.Owners = list }, func(d *impl.Deal) { d.Scheme.Matrix.Rows = repeat([]int64{1, 1}, many/4) },
	} {
		d := changedDeal(good, change)
		checkRefused(t, "a huge deal", d, nil, impl.ErrInvalid)
		expect(t, "a huge deal", show(impl.RunScript(d, "")), "", impl.ErrInvalid)
		expect(t, "a huge deal", show(impl.LiesThatPass(d, 0, 0)), []int64{}, impl.ErrInvalid)
	}
	checkRefused(t, "many deeds", good, repeat(impl.Deed{Kind: impl.DdRenew}, many/3), impl.ErrRange)
	checkRefused(t, "many deeds that are none", good, repeat(impl.Deed{}, many/3), impl.ErrInvalid)
	expect(t, "many values", show(impl.TagsFit(good, 0, 0, list, []int64{0})), false, impl.ErrRange)
	expect(t, "many tags", show(impl.TagsFit(good, 0, 0, []int64{0}, list)), false, impl.ErrRange)
	expect(t, "a large group", show(impl.GatherDeeds(good, nil, list)), []impl.Deed{}, impl.ErrRange)
	for _, text := range []string{strings.Repeat("\n", many), strings.Repeat("x", many), strings.Repeat("give 0\n", many/7)} {
		expect(t, "a long script", show(impl.RunScript(good, text)), "", impl.ErrRange)
	}
	for _, text := range []string{strings.Repeat(" ", many), strings.Repeat("0", many), "give " + strings.Repeat("9", many), "lie 1 " + strings.Repeat("1 ", many/2), strings.Repeat("give 1\n", many/7)} {
		expect(t, "a long text", show(impl.ReadDeed(text)), impl.Deed{}, impl.ErrSyntax)
	}
	// The largest deal, with as much as there may be.
	draw := drawer(93)
	d := dealOf(draw, someScheme(draw, 31, 7, 20, 12), 4, true)
	deed := slices.Concat(deeds("give 0", "deliver 0", "hand 0", "deliver 0", "renew"), someDeeds(draw, d, 395))
	w, codes := newWorld(d).afterAll(deed)
	checkAfter(t, "the largest deal", deed, w, codes)
	text, code := impl.RunScript(d, strings.Join(deedTexts(deed[:120]), "\n"))
	expect(t, "the largest script", show(strings.Count(text, "\n"), code), 120, impl.OK)
	expect(t, "the answers", show(strings.HasPrefix(text, "ok\nok\nok\nok\nok\n")), true)
}
