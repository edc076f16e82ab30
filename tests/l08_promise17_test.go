package tests

import (
	"fmt"
	"math"
	"slices"
	"strings"
	"testing"

	"loop.example/g01117/impl"
)

func TestPromise17ExampleOfCeremonies(t *testing.T) {
	s, _ := impl.CurveScheme(5, 3, 2)
	d := impl.Deal{Scheme: s, Secret: 4, Blinds: [][]int64{{1}}, Keys: [][][]int64{repeat([]int64{2, 3}, 3)}}
	expect(t, "ValidDeal", show(impl.ValidDeal(d)), true)
	expect(t, "the tags of the holder 0", show(impl.DealTags(d, 0, 0)), []int64{3}, impl.OK)
	plan, code := impl.GatherDeeds(d, nil, []int64{0, 2})
	expect(t, "GatherDeeds", show(deedTexts(plan), code), strings.Split("give 0,deliver 0,save 0,hand 0,deliver 0,give 2,deliver 0,save 2,hand 2,deliver 0", ","), impl.OK)
	expect(t, "OpenAfter", show(impl.OpenAfter(d, plan)), 4, impl.OK)
	expect(t, "nobody is named", show(impl.NamedAfter(d, plan)), []int64{}, impl.OK)
	plan = append(plan, deeds("give 1", "deliver 0", "lie 1 1", "hand 1", "deliver 0")...)
	expect(t, "NamedAfter", show(impl.NamedAfter(d, plan)), []int64{1}, impl.OK)
	expect(t, "OpenAfter", show(impl.OpenAfter(d, plan)), 4, impl.OK)
}

func TestPromise17LimitsOfCeremonies(t *testing.T) {
	expect(t, "limits", show(impl.MaxEpochs, impl.MaxWire, impl.MaxDeeds, impl.MaxScriptText, impl.MaxScriptLines), 4, 12, 400, 20000, 120)
	expect(t, "kinds", show(impl.DdGive, impl.DdHand, impl.DdDeliver, impl.DdCopy, impl.DdDrop, impl.DdLie, impl.DdSave, impl.DdCrash, impl.DdRenew), 1, 2, 3, 4, 5, 6, 7, 8, 9)
}

// TestPromise17ReadsDeeds reads the texts of all deeds, but of lies only those with some numbers.
func TestPromise17ReadsDeeds(t *testing.T) {
	some := []int64{0, 1, 2, 9, 10, 11, 30, 99, 100, 101, 110, 500, 990, 998, 999}
	check := func(d impl.Deed) {
		text := deedText(d)
		expect(t, "ValidDeed of "+text, show(impl.ValidDeed(d)), true)
		expect(t, "DeedText", show(impl.DeedText(d)), text)
		expect(t, "ReadDeed of "+text, show(impl.ReadDeed(text)), d, impl.OK)
	}
	for kind := int64(1); kind <= 9; kind++ {
		for a := range int64(1000) {
			switch {
			case kind == impl.DdRenew && a > 0:
			case kind != impl.DdLie:
				check(impl.Deed{Kind: kind, A: a})
			default:
				for _, b := range some {
					check(impl.Deed{Kind: kind, A: a, B: b})
					check(impl.Deed{Kind: kind, A: b, B: a})
				}
			}
		}
	}
}

func TestPromise17ValidDeeds(t *testing.T) {
	numbers := []int64{math.MinInt64, -1000, -1, 0, 1, 2, 998, 999, 1000, 1001, math.MaxInt64}
	fits := func(n int64, mentioned bool) bool { return n == 0 || mentioned && n > 0 && n < 1000 }
	for _, kind := range append(countTo(12), -1, math.MinInt64, math.MaxInt64, 256+1, 1<<32+1) {
		for _, a := range numbers {
			for _, b := range numbers {
				d := impl.Deed{Kind: kind, A: a, B: b}
				valid := kind >= 1 && kind <= 9 && fits(a, kind != 9) && fits(b, kind == 6)
				expect(t, fmt.Sprint("ValidDeed of ", d), show(impl.ValidDeed(d)), valid)
				text := ""
				if valid {
					text = deedText(d)
				}
				expect(t, fmt.Sprint("DeedText of ", d), show(impl.DeedText(d)), text)
			}
		}
	}
	for _, d := range brokenDeeds() {
		expect(t, fmt.Sprint("ValidDeed of ", d), show(impl.ValidDeed(d), impl.DeedText(d)), false, "")
	}
}

// TestPromise17TextsThatAreNone reads texts of which most are nearly those of deeds.
func TestPromise17TextsThatAreNone(t *testing.T) {
	texts := []string{"", " ", "\n", "what", "open", "named", "has", "epoch", "give", "give ", "give 1000", "give 0999", "give 00", "give -0", "give -1", "give +1", "give 1.0", "give 0x1", "give 1_0", "give A", "give 1 ", "give  1", " give 1", "give\t1", "give 1\n", "give 1\r", "give 1 0", "give 1 1",
		"Give 1", "GIVE 1", "give1", "lie", "lie 1", "lie 1 ", "lie 1 1 ", "lie 1 1 1", "lie 1 1 0", "lie 1  1", "lie 1000 1", "lie 1 1000", "lie 01 1", "lie 1 01", "lie 1,1", "renew 0", "renew ", " renew", "renew\n", "renewal", "\x00", "\xff", "give \xff", "give ١", "give 9223372036854775807", "give 9223372036854775808", "give 18446744073709551617", "lie -9223372036854775808 0",
		"1 0", "0", "0 0", " 0", "crash save 0", "deliver 0 deliver 0", "give " + strings.Repeat("0", 1000), "give 1" + strings.Repeat(" 0", 1000), strings.Repeat("give 1 ", 1000)}
	for b := range 256 {
		texts = append(texts, string([]byte{byte(b)}), "give "+string([]byte{byte(b)}), "lie 1"+string([]byte{byte(b)})+"1")
	}
	for _, text := range []string{"give 0", "hand 10", "deliver 999", "copy 7", "drop 12", "lie 3 1", "lie 100 999", "save 6", "crash 90", "renew"} {
		texts = append(texts, nearlyTexts(text, "019 givelhnw\n\x00-")...)
	}
	read := 0
	for _, text := range texts {
		d, ok := deedWithText(text)
		if ok {
			read++
			expect(t, "ReadDeed of "+text, show(impl.ReadDeed(text)), d, impl.OK)
		} else {
			expect(t, fmt.Sprintf("ReadDeed of %q", text), show(impl.ReadDeed(text)), impl.Deed{}, impl.ErrSyntax)
		}
	}
	if read < 100 || read > len(texts)/2 {
		t.Errorf("%d of %d texts are deeds", read, len(texts))
	}
}

func TestPromise17ValidDeals(t *testing.T) {
	for i, d := range brokenDeals() {
		expect(t, fmt.Sprint("the broken deal ", i), show(isDeal(d), impl.ValidDeal(d)), false, false)
	}
	for i, d := range someDeals() {
		expect(t, fmt.Sprint("the deal ", i), show(isDeal(d), impl.ValidDeal(d)), true, true)
	}
	for epochs := range 7 {
		expect(t, fmt.Sprint(epochs, " epochs"), show(impl.ValidDeal(exampleDeal(epochs))), epochs >= 1 && epochs <= 4)
	}
	// Whatever element is changed, it has to stay an element of the field.
	for _, d := range tinyDeals() {
		for _, n := range []int64{-1, 0, d.Scheme.Matrix.Prime - 1, d.Scheme.Matrix.Prime, math.MinInt64, math.MaxInt64} {
			try := func(change func(d *impl.Deal)) {
				changed := changedDeal(d, change)
				expect(t, fmt.Sprint("ValidDeal of ", changed), show(impl.ValidDeal(changed)), n >= 0 && n < d.Scheme.Matrix.Prime)
			}
			try(func(d *impl.Deal) { d.Secret = n })
			for epoch, blinds := range d.Blinds {
				for i := range blinds {
					try(func(d *impl.Deal) { d.Blinds[epoch][i] = n })
				}
				for row := range d.Keys[epoch] {
					try(func(d *impl.Deal) { d.Keys[epoch][row][0] = n })
					try(func(d *impl.Deal) { d.Keys[epoch][row][1] = n })
				}
			}
		}
		for epoch := range d.Blinds {
			for _, change := range []func(d *impl.Deal){
				func(d *impl.Deal) { d.Blinds[epoch] = append(d.Blinds[epoch], 0) },
				func(d *impl.Deal) { d.Keys[epoch] = append(d.Keys[epoch], []int64{0, 0}) },
				func(d *impl.Deal) { d.Blinds = slices.Delete(d.Blinds, epoch, epoch+1) },
				func(d *impl.Deal) { d.Keys = slices.Delete(d.Keys, epoch, epoch+1) },
			} {
				changed := changedDeal(d, change)
				expect(t, fmt.Sprint("ValidDeal of ", changed), show(isDeal(changed), impl.ValidDeal(changed)), false, false)
			}
		}
	}
}

// placesOf returns epochs and holders, some of which a deal does not have.
func placesOf(d impl.Deal) [][2]int64 {
	var places [][2]int64
	epochs, holders := int64(len(d.Blinds)), d.Scheme.Holders
	for _, epoch := range append(countTo(epochs), -1, epochs, epochs+1, math.MinInt64, math.MaxInt64) {
		for _, h := range append(countTo(holders), -1, holders, holders+1, 63, 64, math.MinInt64, math.MaxInt64) {
			places = append(places, [2]int64{epoch, h})
		}
	}
	return places
}

func isPlace(d impl.Deal, epoch, h int64) bool {
	return epoch >= 0 && epoch < int64(len(d.Blinds)) && h >= 0 && h < d.Scheme.Holders
}

func TestPromise17ValuesAndTags(t *testing.T) {
	without, several := 0, 0
	for i, d := range someDeals() {
		for k, place := range placesOf(d) {
			epoch, h := place[0], place[1]
			what := fmt.Sprintf("the deal %d, %d, %d", i, epoch, h)
			if !isPlace(d, epoch, h) {
				expect(t, "DealValues of "+what, show(impl.DealValues(d, epoch, h)), []int64{}, impl.ErrRange)
				expect(t, "DealTags of "+what, show(impl.DealTags(d, epoch, h)), []int64{}, impl.ErrRange)
				expect(t, "TagsFit of "+what, show(impl.TagsFit(d, epoch, h, nil, nil)), false, impl.ErrRange)
				expect(t, "LiesThatPass of "+what, show(impl.LiesThatPass(d, epoch, h)), []int64{}, impl.ErrRange)
				continue
			}
			values := valuesBy(d, epoch, h)
			tags := tagsBy(d, epoch, h, values)
			switch len(values) {
			case 0:
				without++
			case 1:
			default:
				several++
			}
			expect(t, "DealValues of "+what, show(impl.DealValues(d, epoch, h)), values, impl.OK)
			expect(t, "DealTags of "+what, show(impl.DealTags(d, epoch, h)), tags, impl.OK)
			if i < 100 || k%5 == 0 {
				checkTags(t, what, d, epoch, h, values, tags)
			}
		}
	}
	if without < 100 || several < 100 {
		t.Errorf("%d holders without rows, and %d with several", without, several)
	}
}

// checkTags checks TagsFit for the shares of a holder, and with the first two or the last one of them, or of its tags, changed.
func checkTags(t *testing.T, what string, d impl.Deal, epoch, h int64, values, tags []int64) {
	t.Helper()
	p := d.Scheme.Matrix.Prime
	check := func(values, tags []int64) {
		t.Helper()
		what := fmt.Sprint("TagsFit of ", what, values, tags)
		if len(values) != len(rowsHeldBy(d.Scheme, 1<<h)) || len(values) != len(tags) || !areRemainders(p, values) || !areRemainders(p, tags) {
			expect(t, what, show(impl.TagsFit(d, epoch, h, values, tags)), false, impl.ErrRange)
			return
		}
		expect(t, what, show(impl.TagsFit(d, epoch, h, values, tags)), show(tags) == show(tagsBy(d, epoch, h, values)), impl.OK)
	}
	check(values, tags)
	check(append(slices.Clone(values), 0), tags)
	check(values, append(slices.Clone(tags), 0))
	check(append(slices.Clone(values), 0), append(slices.Clone(tags), 0))
	for i := range values {
		if i > 1 && i < len(values)-1 {
			continue
		}
		check(values[1:], tags)
		check(values, tags[1:])
		check(values[1:], tags[1:])
		for _, n := range []int64{-1, 0, 1, (values[i] + 1) % p, p - 1, p, p + values[i], math.MinInt64, math.MaxInt64} {
			changed := slices.Clone(values)
			changed[i] = n
			check(changed, tags)
			if areRemainders(p, changed) {
				check(changed, tagsBy(d, epoch, h, changed))
			}
			changed = slices.Clone(tags)
			changed[i] = n
			check(values, changed)
		}
	}
}

// TestPromise17AllTags tries all lists of values and tags of small deals.
func TestPromise17AllTags(t *testing.T) {
	for _, d := range tinyDeals() {
		for epoch := range int64(len(d.Blinds)) {
			for h := range d.Scheme.Holders {
				rows := len(rowsHeldBy(d.Scheme, 1<<h))
				fitting := 0
				for _, values := range allLists(d.Scheme.Matrix.Prime, rows) {
					for _, tags := range allLists(d.Scheme.Matrix.Prime, rows) {
						fits := slices.Equal(tags, tagsBy(d, epoch, h, values))
						if fits {
							fitting++
						}
						expect(t, fmt.Sprint("TagsFit of ", d, epoch, h, values, tags), show(impl.TagsFit(d, epoch, h, values, tags)), fits, impl.OK)
					}
				}
				expect(t, "tags that fit, for all values", show(fitting), len(allLists(d.Scheme.Matrix.Prime, rows)))
			}
		}
	}
}

func TestPromise17Lies(t *testing.T) {
	passing, shown := 0, 0
	for i, d := range someDeals() {
		p := d.Scheme.Matrix.Prime
		for epoch := range int64(len(d.Blinds)) {
			for h := range d.Scheme.Holders {
				values := valuesBy(d, epoch, h)
				lies := []int64{}
				for lie := range p {
					fits, code := impl.TagsFit(d, epoch, h, liedBy(p, values, lie), tagsBy(d, epoch, h, values))
					if code != impl.OK {
						t.Errorf("TagsFit of the deal %d with the lie %d: code %d", i, lie, code)
					}
					if fits {
						lies = append(lies, lie)
					}
				}
				what := fmt.Sprintf("LiesThatPass of the deal %d, %d, %d", i, epoch, h)
				expect(t, what, show(impl.LiesThatPass(d, epoch, h)), lies, impl.OK)
				if key, some := firstKey(d, epoch, h); !some || key == 0 {
					expect(t, what, show(lies), countTo(p))
					passing++
				} else {
					expect(t, what, show(lies), []int64{0})
					shown++
				}
			}
		}
	}
	if passing < 100 || shown < 100 {
		t.Errorf("all lies pass for %d holders, and no other one but 0 for %d", passing, shown)
	}
}

// TestPromise17OtherKeys: only the first row of a holder decides which lies pass.
func TestPromise17OtherKeys(t *testing.T) {
	d := impl.Deal{Scheme: scheme("scheme 2 5 3\nrow B 1 1 0\nrow A 1 1 0\nrow A 1 2 1\nrow B 1 1 1\n"), Secret: 2, Blinds: [][]int64{{1, 3}}, Keys: [][][]int64{{{0, 1}, {3, 1}, {0, 4}, {2, 2}}}}
	expect(t, "values of A", show(impl.DealValues(d, 0, 0)), []int64{3, 2}, impl.OK)
	expect(t, "tags of A", show(impl.DealTags(d, 0, 0)), []int64{0, 4}, impl.OK)
	expect(t, "values of B", show(impl.DealValues(d, 0, 1)), []int64{3, 1}, impl.OK)
	expect(t, "tags of B", show(impl.DealTags(d, 0, 1)), []int64{1, 4}, impl.OK)
	expect(t, "lies of A", show(impl.LiesThatPass(d, 0, 0)), []int64{0}, impl.OK)
	expect(t, "lies of B", show(impl.LiesThatPass(d, 0, 1)), countTo(5), impl.OK)
}

// TestPromise17InvalidDealsFirst gives deals that are not valid, with everything else out of range, too.
func TestPromise17InvalidDealsFirst(t *testing.T) {
	for i, d := range brokenDeals() {
		what := fmt.Sprint("the broken deal ", i)
		for _, place := range [][2]int64{{0, 0}, {-1, 0}, {0, -1}, {4, 7}, {math.MaxInt64, math.MinInt64}} {
			expect(t, what, show(impl.DealValues(d, place[0], place[1])), []int64{}, impl.ErrInvalid)
			expect(t, what, show(impl.DealTags(d, place[0], place[1])), []int64{}, impl.ErrInvalid)
			expect(t, what, show(impl.TagsFit(d, place[0], place[1], []int64{0}, []int64{-1})), false, impl.ErrInvalid)
			expect(t, what, show(impl.LiesThatPass(d, place[0], place[1])), []int64{}, impl.ErrInvalid)
		}
	}
}
