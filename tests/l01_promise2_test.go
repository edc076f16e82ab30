package tests

import (
	"regexp"
	"slices"
	"strings"
	"testing"

	"loop.example/g01117/impl"
)

func TestPromise2CodeNames(t *testing.T) {
	names := []string{"ok", "invalid", "range", "limit", "state", "syntax", "notfound", "budget", "proof"}
	for code, name := range names {
		expect(t, "CodeName", show(impl.CodeName(int64(code))), name)
	}
	codes := []int64{impl.OK, impl.ErrInvalid, impl.ErrRange, impl.ErrLimit, impl.ErrState, impl.ErrSyntax, impl.ErrNotFound, impl.ErrBudget, impl.ErrProof}
	expect(t, "codes", show(codes), countTo(9))
	for _, code := range []int64{-1 << 63, -1, 9, 256, 1 << 32, 1<<63 - 1} {
		expect(t, "CodeName", show(impl.CodeName(code)), "")
	}
	limits := []int64{impl.MaxHolders, impl.MaxGroups, impl.MaxWeight, impl.MaxText}
	expect(t, "limits", show(limits), []int64{7, 200, 1000, 4000})
}

func TestPromise2Example(t *testing.T) {
	f, code := impl.ReadFamily("family 3\nAB\nAC\n")
	expect(t, "ReadFamily", show(f, code), family(3, []int64{0, 1}, []int64{0, 2}), impl.OK)
	d, code := impl.DualFamily(f)
	expect(t, "DualFamily", show(impl.FamilyText(d), code), "family 3\nA\nBC\n", impl.OK)
	expect(t, "VetoHolders", show(impl.VetoHolders(f)), []int64{0}, impl.OK)
	expect(t, "AlikeHolders", show(impl.AlikeHolders(f)), []int64{0, 1, 1}, impl.OK)
	expect(t, "CountBySize", show(impl.CountBySize(f)), []int64{0, 0, 2, 1}, impl.OK)
	expect(t, "SwingsOf", show(impl.SwingsOf(f)), []int64{3, 1, 1}, impl.OK)
	expect(t, "WeightedFamily", show(impl.WeightedFamily([]int64{2, 1, 1}, 3)), f, impl.OK)
}

func TestPromise2TextsOfFamilies(t *testing.T) {
	everyRule(func(r rule, f impl.Family) {
		expect(t, "ValidFamily", show(impl.ValidFamily(f)), true)
		expect(t, "FamilyText", show(impl.FamilyText(f)), r.text())
		expect(t, "ReadFamily", show(impl.ReadFamily(r.text())), f, impl.OK)
	})
	for _, f := range brokenFamilies() {
		expect(t, "broken", show(impl.ValidFamily(f), impl.FamilyText(f)), false, "")
	}
}

// validByDefinition checks the words of the document one by one.
func validByDefinition(f impl.Family) bool {
	if f.Holders < 1 || f.Holders > 7 {
		return false
	}
	for i, g := range f.Groups {
		for k, h := range g {
			if h < 0 || h >= f.Holders || k > 0 && h <= g[k-1] {
				return false
			}
		}
		if i > 0 && slices.Compare(f.Groups[i-1], g) >= 0 {
			return false
		}
	}
	for i, g := range f.Groups {
		for k, other := range f.Groups {
			if mask := maskOf(g) & maskOf(other); i != k && mask == maskOf(g) {
				return false
			}
		}
	}
	return true
}

// TestPromise2ValidFamilies tries all families with up to 3 groups of up to 2 numbers from -1 to 2.
func TestPromise2ValidFamilies(t *testing.T) {
	groups := [][]int64{{}}
	for a := int64(-1); a <= 2; a++ {
		groups = append(groups, []int64{a})
		for b := int64(-1); b <= 2; b++ {
			groups = append(groups, []int64{a, b})
		}
	}
	lists := [][][]int64{{}}
	for from := 0; len(lists[from]) < 3; from++ {
		for _, g := range groups {
			lists = append(lists, append(slices.Clone(lists[from]), g))
		}
	}
	for holders := int64(0); holders <= 3; holders++ {
		for _, list := range lists {
			f := impl.Family{Holders: holders, Groups: list}
			if impl.ValidFamily(f) != validByDefinition(f) {
				t.Errorf("ValidFamily of %v: %v", f, impl.ValidFamily(f))
			}
		}
	}
}

func TestPromise2SameFamily(t *testing.T) {
	families := append(brokenFamilies(), nobody(3), nobody(4), everybody(3), family(3, []int64{0, 1}), family(3, []int64{0, 2}),
		family(3, []int64{0}, []int64{1}), family(3, []int64{0, 1}, []int64{2}), family(4, []int64{0, 1}))
	for i, f := range families {
		for k, g := range families {
			expect(t, "SameFamily of "+show(f, g), show(impl.SameFamily(f, g)), i == k)
		}
		copied := impl.Family{Holders: f.Holders}
		for _, g := range f.Groups {
			copied.Groups = append(copied.Groups, slices.Clone(g))
		}
		expect(t, "SameFamily of a copy", show(impl.SameFamily(f, copied)), true)
	}
}

var familyLines = regexp.MustCompile(`^family [1-7]\n((-|[A-G]+)\n)*$`)

// readByDefinition returns the family of a text of the right form, which need not be valid.
func readByDefinition(text string) (impl.Family, bool) {
	if !familyLines.MatchString(text) {
		return impl.Family{}, false
	}
	f := nobody(int64(text[7] - '0'))
	for _, line := range strings.Split(text[9:], "\n")[:strings.Count(text, "\n")-1] {
		group := []int64{}
		for _, letter := range strings.ReplaceAll(line, "-", "") {
			group = append(group, int64(letter-'A'))
		}
		f.Groups = append(f.Groups, group)
	}
	return f, validByDefinition(f)
}

// TestPromise2NearlyTexts changes, adds and removes each byte of texts.
func TestPromise2NearlyTexts(t *testing.T) {
	const letters = "\n -,ABCDGHaf+03478\r\t\x00\xff"
	for _, text := range []string{"family 1\n", "family 7\n-\n", "family 3\nAB\nAC\n", "family 4\nABD\nAC\nBC\n", "family 3\nA\nB\nC\n", "family 7\nABCDEFG\n"} {
		nearly := []string{text, text + text, text[7:], strings.ToUpper(text), strings.ToLower(text)}
		for _, s := range append(nearly, nearlyTexts(text, letters)...) {
			if f, ok := readByDefinition(s); ok {
				expect(t, "ReadFamily of "+s, show(impl.ReadFamily(s)), f, impl.OK)
			} else {
				expect(t, "ReadFamily of "+s, show(impl.ReadFamily(s)), impl.Family{}, impl.ErrSyntax)
			}
		}
	}
}

func TestPromise2TextsThatAreNone(t *testing.T) {
	for _, text := range []string{"", "\n", "-", "family", "family 3", "family\n", "family \n", "family 0\n", "family 8\n", "family -1\n", "family +3\n", "family 03\n",
		"family 3 \n", " family 3\n", "family  3\n", "families 3\n", "Family 3\n", "3\n", "family 3\r\n", "family 18446744073709551619\n",
		"family 3\n\n", "family 3\nAB", "family 3\nAB\n\n", "family 3\nAB AC\n", "family 3\nA B\n", "family 3\n--\n", "family 3\n-A\n", "family 3\nab\n",
		"family 3\nD\n", "family 3\nBA\n", "family 3\nAA\n", "family 3\nAC\nAB\n", "family 3\nAB\nAB\n", "family 3\nA\nAB\n", "family 3\nAB\nB\n", "family 3\n-\nA\n", "family 3\n-\n-\n"} {
		expect(t, "ReadFamily of "+text, show(impl.ReadFamily(text)), impl.Family{}, impl.ErrSyntax)
	}
	full, over := strings.Repeat("A", 4000), "family 1\n"+strings.Repeat("\n", 3992)
	expect(t, "a text of 4000 bytes", show(impl.ReadFamily(full)), impl.Family{}, impl.ErrSyntax)
	expect(t, "a text of 4001 bytes", show(len(over)), 4001)
	expect(t, "a text of 4001 bytes", show(impl.ReadFamily(over)), impl.Family{}, impl.ErrRange)
}

func TestPromise2TextsOfGroups(t *testing.T) {
	for mask := range 1 << 7 {
		text := ""
		for _, h := range members(mask) {
			text += "ABCDEFG"[h : h+1]
		}
		if mask == 0 {
			text = "-"
		}
		expect(t, "GroupText", show(impl.GroupText(members(mask))), text)
	}
	for _, group := range [][]int64{{7}, {-1}, {1, 0}, {0, 0}, {0, 7}, countTo(8), {-1 << 63}, {1<<63 - 1}, {0, 64}} {
		expect(t, "GroupText", show(impl.GroupText(group)), "")
	}
}

func TestPromise2FamilyOf(t *testing.T) {
	everyRule(func(r rule, f impl.Family) {
		opening := r.lists(func(mask int) bool { return r[mask] })
		slices.Reverse(opening)
		expect(t, "FamilyOf all opening groups", show(impl.FamilyOf(f.Holders, opening)), f, impl.OK)
		expect(t, "FamilyOf the least groups twice", show(impl.FamilyOf(f.Holders, slices.Concat(f.Groups, f.Groups))), f, impl.OK)
	})
	expect(t, "200 groups", show(impl.FamilyOf(3, repeat([]int64{1}, 200))), family(3, []int64{1}), impl.OK)
	none := show(impl.Family{}, impl.ErrRange)
	for what, got := range map[string]string{
		"201 groups":      show(impl.FamilyOf(3, repeat([]int64{1}, 201))),
		"no holders":      show(impl.FamilyOf(0, nil)),
		"8 holders":       show(impl.FamilyOf(8, nil)),
		"holder 3 of 3":   show(impl.FamilyOf(3, [][]int64{{0}, {3}})),
		"holder -1":       show(impl.FamilyOf(3, [][]int64{{-1}})),
		"twice a holder":  show(impl.FamilyOf(3, [][]int64{{}, {1, 1}})),
		"not ascending":   show(impl.FamilyOf(3, [][]int64{{1, 0}})),
		"least of int64s": show(impl.FamilyOf(-1<<63, [][]int64{{}})),
	} {
		if got != none {
			t.Errorf("FamilyOf with %s: %s", what, got)
		}
	}
}

func TestPromise2WhoMayOpen(t *testing.T) {
	everyRule(func(r rule, f impl.Family) {
		for mask := range r {
			expect(t, "MayOpen of "+show(f, mask), show(impl.MayOpen(f, members(mask))), r[mask], impl.OK)
		}
		opening := r.lists(func(mask int) bool { return r[mask] })
		blocked := r.lists(func(mask int) bool {
			for h := range r.holders() {
				if mask>>h&1 == 0 && !r[mask|1<<h] {
					return false
				}
			}
			return !r[mask]
		})
		expect(t, "OpeningGroups of "+show(f), show(impl.OpeningGroups(f)), opening, impl.OK)
		expect(t, "GreatestBlocked of "+show(f), show(impl.GreatestBlocked(f)), blocked, impl.OK)
	})
}

func TestPromise2MoreHoldersOpenNoLess(t *testing.T) {
	everyRule(func(r rule, f impl.Family) {
		for mask := range r {
			less, _ := impl.MayOpen(f, members(mask))
			for h := range r.holders() {
				more, _ := impl.MayOpen(f, members(mask|1<<h))
				if less && !more {
					t.Errorf("%v: the group %v may open, but not with %d", f, members(mask), h)
				}
			}
		}
	})
}

func TestPromise2NobodyAndEverybody(t *testing.T) {
	for n := int64(1); n <= 7; n++ {
		f, g := nobody(n), everybody(n)
		one := "family " + string('0'+rune(n)) + "\n"
		expect(t, "texts", show(impl.FamilyText(f), impl.FamilyText(g)), one, one+"-\n")
		expect(t, "nobody may", show(impl.MayOpen(f, countTo(n))), false, impl.OK)
		expect(t, "everybody may", show(impl.MayOpen(g, nil)), true, impl.OK)
		expect(t, "nobody opens", show(impl.OpeningGroups(f)), [][]int64{}, impl.OK)
		expect(t, "nobody is blocked", show(impl.GreatestBlocked(g)), [][]int64{}, impl.OK)
		expect(t, "all are blocked", show(impl.GreatestBlocked(f)), [][]int64{countTo(n)}, impl.OK)
		all, code := impl.OpeningGroups(g)
		expect(t, "everybody opens", show(len(all), code, all[0]), 1<<n, impl.OK, []int64{})
		expect(t, "dual of nobody", show(impl.DualFamily(f)), g, impl.OK)
		expect(t, "dual of everybody", show(impl.DualFamily(g)), f, impl.OK)
		expect(t, "either", show(impl.EitherFamily(f, g)), g, impl.OK)
		expect(t, "both", show(impl.BothFamilies(f, g)), f, impl.OK)
	}
}

func TestPromise2Duals(t *testing.T) {
	everyRule(func(r rule, f impl.Family) {
		d, code := impl.DualFamily(f)
		want := newRule(r.holders(), func(mask int) bool { return !r[len(r)-1-mask] }).family()
		expect(t, "DualFamily of "+show(f), show(d, code), want, impl.OK)
		expect(t, "the dual of the dual", show(impl.DualFamily(d)), f, impl.OK)
	})
}

func TestPromise2EitherAndBoth(t *testing.T) {
	rulePairs(func(r, q rule) {
		f, g := r.family(), q.family()
		either := newRule(r.holders(), func(mask int) bool { return r[mask] || q[mask] }).family()
		both := newRule(r.holders(), func(mask int) bool { return r[mask] && q[mask] }).family()
		expect(t, "EitherFamily of "+show(f, g), show(impl.EitherFamily(f, g)), either, impl.OK)
		expect(t, "BothFamilies of "+show(f, g), show(impl.BothFamilies(f, g)), both, impl.OK)
	})
}

func TestPromise2Errors(t *testing.T) {
	good := family(3, []int64{0, 1})
	for _, f := range brokenFamilies() {
		expect(t, "MayOpen", show(impl.MayOpen(f, nil)), false, impl.ErrInvalid)
		expect(t, "MayOpen, no group either", show(impl.MayOpen(f, []int64{9})), false, impl.ErrInvalid)
		expect(t, "OpeningGroups", show(impl.OpeningGroups(f)), [][]int64{}, impl.ErrInvalid)
		expect(t, "GreatestBlocked", show(impl.GreatestBlocked(f)), [][]int64{}, impl.ErrInvalid)
		expect(t, "DualFamily", show(impl.DualFamily(f)), impl.Family{}, impl.ErrInvalid)
		expect(t, "EitherFamily first", show(impl.EitherFamily(f, good)), impl.Family{}, impl.ErrInvalid)
		expect(t, "EitherFamily second", show(impl.EitherFamily(good, f)), impl.Family{}, impl.ErrInvalid)
		expect(t, "BothFamilies first", show(impl.BothFamilies(f, good)), impl.Family{}, impl.ErrInvalid)
		expect(t, "BothFamilies second", show(impl.BothFamilies(good, f)), impl.Family{}, impl.ErrInvalid)
	}
	for _, group := range [][]int64{{3}, {-1}, {0, 3}, {1, 0}, {2, 2}, countTo(4), {-1 << 63}, {1<<63 - 1}} {
		expect(t, "MayOpen", show(impl.MayOpen(good, group)), false, impl.ErrRange)
	}
	expect(t, "EitherFamily of 3 and 4", show(impl.EitherFamily(good, nobody(4))), impl.Family{}, impl.ErrRange)
	expect(t, "BothFamilies of 3 and 2", show(impl.BothFamilies(good, nobody(2))), impl.Family{}, impl.ErrRange)
}
