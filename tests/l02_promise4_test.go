package tests

import (
	"slices"
	"strconv"
	"strings"
	"testing"

	"loop.example/g01117/impl"
)

func TestPromise4Example(t *testing.T) {
	g, code := impl.ReadGate(4, "2(A, B, 1(C, D))")
	expect(t, "ReadGate", show(g, code), gateOf(2, leafOf(0), leafOf(1), gateOf(1, leafOf(2), leafOf(3))), impl.OK)
	expect(t, "GateOpens", show(impl.GateOpens(4, g, []int64{0, 3})), true, impl.OK)
	expect(t, "DualGate", show(impl.DualGate(4, g)), gate("2(A, B, 2(C, D))"), impl.OK)
	expect(t, "limits", show(impl.MaxGate, impl.MaxGateDepth, impl.MaxTried), 60, 12, 8)
}

// TestPromise4ValidGates tries all gates with up to 2 kids of some forms, right and wrong ones.
func TestPromise4ValidGates(t *testing.T) {
	var simple, gates []impl.Gate
	for holder := int64(-2); holder <= 3; holder++ {
		for least := int64(-1); least <= 3; least++ {
			simple = append(simple, impl.Gate{Holder: holder, Least: least})
		}
	}
	kids := append(slices.Clone(simple), gate("1(A)"), gate("1(C)"), gateOf(0, leafOf(0)), gateOf(2, leafOf(0)))
	for _, g := range simple {
		gates = append(gates, g)
		for _, first := range kids {
			gates = append(gates, impl.Gate{Holder: g.Holder, Least: g.Least, Kids: []impl.Gate{first}})
			for _, second := range kids {
				gates = append(gates, impl.Gate{Holder: g.Holder, Least: g.Least, Kids: []impl.Gate{first, second}})
			}
		}
	}
	gates = append(append(gates, brokenGates()...), limitGates()...)
	for _, holders := range []int64{-1 << 63, -1, 0, 1, 2, 3, 4, 7, 8, 1<<63 - 1} {
		for _, g := range gates {
			expect(t, "ValidGate of "+show(holders, g), show(impl.ValidGate(holders, g)), isGate(holders, g))
		}
	}
	for _, g := range brokenGates() {
		expect(t, "a broken gate", show(impl.ValidGate(3, g), impl.GateText(3, g)), false, "")
	}
	for _, g := range limitGates() {
		expect(t, "a gate at a limit", show(impl.ValidGate(1, g), impl.ValidGate(7, g), impl.ValidGate(8, g), impl.ValidGate(0, g)), true, true, false, false)
	}
}

func TestPromise4HoldersOfGates(t *testing.T) {
	for holders := int64(1); holders <= 7; holders++ {
		expect(t, "the last holder", show(impl.ValidGate(holders, leafOf(holders-1))), true)
		expect(t, "one too many", show(impl.ValidGate(holders, leafOf(holders))), false)
		expect(t, "one too many in a kid", show(impl.ValidGate(holders, gateOf(1, leafOf(0), leafOf(holders)))), false)
	}
}

func TestPromise4SameGate(t *testing.T) {
	gates := append(brokenGates(), limitGates()...)
	for size := 1; size <= 4; size++ {
		gates = append(gates, allGates(2, size)...)
	}
	gates = slices.DeleteFunc(gates, func(g impl.Gate) bool { return g.Holder == 0 && g.Least == 0 && len(g.Kids) == 0 })
	gates = append(gates, impl.Gate{})
	for i, g := range gates {
		for k, h := range gates {
			expect(t, "SameGate of "+show(g, h), show(impl.SameGate(g, h)), i == k)
		}
		expect(t, "SameGate of a copy", show(impl.SameGate(g, copyOf(g))), true)
	}
}

// copyOf copies a gate, with empty lists of kids instead of nil.
func copyOf(g impl.Gate) impl.Gate {
	kids := []impl.Gate{}
	for _, kid := range g.Kids {
		kids = append(kids, copyOf(kid))
	}
	return impl.Gate{Holder: g.Holder, Least: g.Least, Kids: kids}
}

func TestPromise4Sizes(t *testing.T) {
	everyGate(func(holders int64, g impl.Gate) {
		expect(t, "GateSize of "+textOf(g), show(impl.GateSize(g)), sizeOf(g))
	})
	for _, g := range append(brokenGates(), limitGates()...) {
		expect(t, "GateSize of "+show(g), show(impl.GateSize(g)), sizeOf(g))
	}
	expect(t, "sizes", show(impl.GateSize(impl.Gate{}), impl.GateSize(leafOf(-5)), impl.GateSize(wide(61)), impl.GateSize(chain(13))), 1, 1, 61, 13)
}

func TestPromise4TextsOfGates(t *testing.T) {
	everyGate(func(holders int64, g impl.Gate) {
		text := textOf(g)
		expect(t, "GateText", show(impl.GateText(holders, g)), text)
		expect(t, "ReadGate of "+text, show(impl.ReadGate(holders, text)), g, impl.OK)
	})
	for _, g := range limitGates() {
		expect(t, "GateText", show(impl.GateText(7, g)), textOf(g))
		expect(t, "ReadGate of "+textOf(g), show(impl.ReadGate(7, textOf(g))), g, impl.OK)
		for _, holders := range []int64{0, 8, -1 << 63, 1<<63 - 1} {
			expect(t, "GateText", show(impl.GateText(holders, g)), "")
		}
	}
	tens := "10(" + strings.Repeat("A, ", 9) + "B)"
	expect(t, "ten kids", show(impl.ReadGate(2, tens)), gateOf(10, append(repeat(leafOf(0), 9), leafOf(1))...), impl.OK)
}

// TestPromise4NearlyTexts changes, adds and removes each byte of texts.
func TestPromise4NearlyTexts(t *testing.T) {
	const letters = "\n ,-()[]ABCDGHabZ@+.0123489\t\x00\xff"
	found := 0
	for _, text := range []string{"A", "1(C)", "2(A, B)", "2(A, B, 1(C, A))", "1(1(1(B)), 2(A, 1(C)))", "3(A, B, C)", "1(11(A), 2(B))", "0(A)"} {
		nearly := []string{text, text + text, text + ", " + text, strings.ToLower(text), strings.ReplaceAll(text, " ", "")}
		for _, s := range append(nearly, nearlyTexts(text, letters)...) {
			if g, ok := gateWithText(s); ok && isGate(3, g) {
				found++
				expect(t, "ReadGate of "+s, show(impl.ReadGate(3, s)), g, impl.OK)
			} else {
				expect(t, "ReadGate of "+s, show(impl.ReadGate(3, s)), impl.Gate{}, impl.ErrSyntax)
			}
		}
	}
	if found < 100 {
		t.Errorf("only %d of the texts are of gates", found)
	}
}

func TestPromise4TextsThatAreNone(t *testing.T) {
	for _, text := range []string{"", " ", "\n", "A\n", " A", "A ", "D", "H", "a", "@", "-", "AB", "A, B", "1", "1(", "1()", "1(A", "1A)", "(A)", "(A, B)", "1(A))", "1 (A)", "1( A)", "1(A )",
		"1(A,B)", "1(A,  B)", "1(A ,B)", "1(A B)", "1(A, )", "1(, A)", "1(A,, B)", "1(A; B)", "1[A]", "0(A)", "2(A)", "3(A, B)", "01(A)", "00(A)", "+1(A)", "-1(A)", "1.0(A)", "one(A)",
		"1(A)B", "1(A)1(B)", "1(A), B", "1(D)", "1(A, 1(D))", "1(A, 2(B))", "1(A, 0(B))", "9223372036854775807(A)", "9223372036854775808(A)", "18446744073709551617(A)", "\xff", "1(\xff)", "1(A\x00)", "\u0661(A)",
		strings.Repeat("1(", 2000), strings.Repeat("1(", 1333) + "A" + strings.Repeat(")", 1333), strings.Repeat("1", 3000) + "(A)", strings.Repeat("1(A, ", 700)} {
		expect(t, "ReadGate of "+text, show(impl.ReadGate(3, text)), impl.Gate{}, impl.ErrSyntax)
	}
}

func TestPromise4TextLimits(t *testing.T) {
	for _, g := range []impl.Gate{chain(13), gateOf(1, leafOf(0), chain(12)), wide(61), gateOf(1, wide(30), wide(30))} {
		expect(t, "beyond a limit", show(impl.ReadGate(7, textOf(g))), impl.Gate{}, impl.ErrSyntax)
	}
	wideText := func(leaves, more int) string {
		return "1(A" + strings.Repeat(", A", leaves-1) + ")" + strings.Repeat(" ", more)
	}
	expect(t, "lengths", show(len(wideText(1333, 0)), len(wideText(1333, 1))), 4000, 4001)
	expect(t, "4000 bytes", show(impl.ReadGate(7, wideText(1333, 0))), impl.Gate{}, impl.ErrSyntax)
	expect(t, "4001 bytes", show(impl.ReadGate(7, wideText(1333, 1))), impl.Gate{}, impl.ErrRange)
	expect(t, "4000 bytes of nothing", show(impl.ReadGate(7, strings.Repeat("x", 4000))), impl.Gate{}, impl.ErrSyntax)
	expect(t, "4001 bytes of nothing", show(impl.ReadGate(7, strings.Repeat("x", 4001))), impl.Gate{}, impl.ErrRange)
	for _, holders := range []int64{0, 8, -1, -1 << 63, 1<<63 - 1} {
		for _, text := range []string{"A", "1(A)", "", "?", strings.Repeat("x", 4001)} {
			expect(t, "no holders", show(impl.ReadGate(holders, text)), impl.Gate{}, impl.ErrRange)
		}
	}
	for holders := int64(1); holders <= 7; holders++ {
		letter := "ABCDEFGH"[holders-1 : holders+1]
		expect(t, "the last letter", show(impl.ReadGate(holders, letter[:1])), leafOf(holders-1), impl.OK)
		expect(t, "one letter too many", show(impl.ReadGate(holders, letter[1:])), impl.Gate{}, impl.ErrSyntax)
	}
}

func TestPromise4GatesOpen(t *testing.T) {
	everyGate(func(holders int64, g impl.Gate) {
		r := ruleOfGate(holders, g)
		for mask := range r {
			expect(t, "GateOpens of "+textOf(g), show(impl.GateOpens(holders, g, members(mask))), r[mask], impl.OK)
		}
		expect(t, "FamilyOfGate of "+textOf(g), show(impl.FamilyOfGate(holders, g)), r.family(), impl.OK)
	})
	for h := range int64(7) {
		expect(t, "a leaf opens", show(impl.GateOpens(7, leafOf(h), []int64{h})), true, impl.OK)
		expect(t, "a leaf alone", show(impl.FamilyOfGate(7, leafOf(h))), family(7, []int64{h}), impl.OK)
	}
}

func TestPromise4GatesOfFamilies(t *testing.T) {
	everyRule(func(r rule, f impl.Family) {
		text := gateTextOf(f)
		wanted, ok := gateWithText(text)
		if len(f.Groups) == 0 || len(f.Groups[0]) == 0 {
			expect(t, "GateOfFamily of "+show(f), show(impl.GateOfFamily(f)), impl.Gate{}, impl.ErrState)
		} else if !ok || sizeOf(wanted) > 60 {
			expect(t, "GateOfFamily of "+show(f), show(impl.GateOfFamily(f)), impl.Gate{}, impl.ErrLimit)
		} else {
			expect(t, "GateOfFamily of "+show(f), show(impl.GateOfFamily(f)), wanted, impl.OK)
			expect(t, "the family of "+text, show(impl.FamilyOfGate(f.Holders, wanted)), f, impl.OK)
		}
	})
	expect(t, "one group", show(impl.GateOfFamily(family(3, []int64{0, 2}))), gate("1(2(A, C))"), impl.OK)
	expect(t, "one holder", show(impl.GateOfFamily(family(1, []int64{0}))), gate("1(1(A))"), impl.OK)
}

// gateTextOf writes the text of the gate of a family with groups and holders in them.
func gateTextOf(f impl.Family) string {
	var kids []string
	for _, group := range f.Groups {
		var letters []string
		for _, h := range group {
			letters = append(letters, "ABCDEFG"[h:h+1])
		}
		kids = append(kids, string('0'+rune(len(group)))+"("+strings.Join(letters, ", ")+")")
	}
	return "1(" + strings.Join(kids, ", ") + ")"
}

func TestPromise4GateOfFamilyErrors(t *testing.T) {
	for _, f := range brokenFamilies() {
		expect(t, "a broken family", show(impl.GateOfFamily(f)), impl.Gate{}, impl.ErrInvalid)
	}
	for n := int64(1); n <= 7; n++ {
		expect(t, "nobody", show(impl.GateOfFamily(nobody(n))), impl.Gate{}, impl.ErrState)
		expect(t, "everybody", show(impl.GateOfFamily(everybody(n))), impl.Gate{}, impl.ErrState)
	}
	triples := make(rule, 1<<7).lists(func(mask int) bool {
		return len(members(mask)) == 3 && mask&0b1100000 != 0b1100000
	})
	full := family(7, append(slices.Clone(triples[:14]), []int64{5, 6})...)
	slices.SortFunc(full.Groups, slices.Compare)
	g, code := impl.GateOfFamily(full)
	expect(t, "60 nodes", show(impl.GateSize(g), code, g), 60, impl.OK, gate(gateTextOf(full)))
	expect(t, "61 nodes", show(impl.GateOfFamily(family(7, triples[:15]...))), impl.Gate{}, impl.ErrLimit)
	thirds, _ := impl.ThresholdFamily(7, 3)
	expect(t, "141 nodes", show(impl.GateOfFamily(thirds)), impl.Gate{}, impl.ErrLimit)
}

// dualByText changes the number before each parenthesis.
func dualByText(text string) string {
	g, _ := gateWithText(text)
	if len(g.Kids) == 0 {
		return text
	}
	var kids []string
	for _, kid := range g.Kids {
		kids = append(kids, dualByText(textOf(kid)))
	}
	return strconv.Itoa(len(g.Kids)-int(g.Least)+1) + "(" + strings.Join(kids, ", ") + ")"
}

func TestPromise4Duals(t *testing.T) {
	everyGate(func(holders int64, g impl.Gate) {
		d, code := impl.DualGate(holders, g)
		expect(t, "DualGate of "+textOf(g), show(impl.GateText(holders, d), code), dualByText(textOf(g)), impl.OK)
		expect(t, "the dual of the dual", show(impl.DualGate(holders, d)), g, impl.OK)
		f, _ := impl.FamilyOfGate(holders, g)
		dual, _ := impl.DualFamily(f)
		expect(t, "the family of the dual of "+textOf(g), show(impl.FamilyOfGate(holders, d)), dual, impl.OK)
	})
}

// tidyStep makes one replacement, the outermost and first that can be made, and returns false if there is none.
func tidyStep(g impl.Gate) (impl.Gate, bool) {
	if len(g.Kids) == 1 {
		return g.Kids[0], true
	}
	for i, kid := range g.Kids {
		one := g.Least == 1 && kid.Least == 1
		all := int(g.Least) == len(g.Kids) && len(kid.Kids) > 0 && int(kid.Least) == len(kid.Kids)
		if one || all {
			kids := slices.Concat(g.Kids[:i], kid.Kids, g.Kids[i+1:])
			if all {
				return gateOf(int64(len(kids)), kids...), true
			}
			return gateOf(1, kids...), true
		}
	}
	for i, kid := range g.Kids {
		if tidier, ok := tidyStep(kid); ok {
			return gateOf(g.Least, slices.Concat(g.Kids[:i], []impl.Gate{tidier}, g.Kids[i+1:])...), true
		}
	}
	return g, false
}

func TestPromise4Tidy(t *testing.T) {
	everyGate(func(holders int64, g impl.Gate) {
		want := g
		for again := true; again; {
			want, again = tidyStep(want)
		}
		expect(t, "TidyGate of "+textOf(g), show(impl.TidyGate(holders, g)), want, impl.OK)
		expect(t, "tidy again", show(impl.TidyGate(holders, want)), want, impl.OK)
		expect(t, "the family of the tidy "+textOf(g), show(impl.FamilyOfGate(holders, want)), ruleOfGate(holders, g).family(), impl.OK)
	})
	for text, want := range map[string]string{
		"A": "A", "1(A)": "A", "1(1(1(A)))": "A", "1(A, A)": "1(A, A)", "1(A, 1(B, C), D)": "1(A, B, C, D)", "1(1(A, B), 1(C, D))": "1(A, B, C, D)",
		"2(A, 2(B, C))": "3(A, B, C)", "2(2(A, B), 2(C, D))": "4(A, B, C, D)", "1(2(A, B), C)": "1(2(A, B), C)", "2(1(A, B), C)": "2(1(A, B), C)",
		"2(A, B, 2(C, D))": "2(A, B, 2(C, D))", "2(A, 2(B, C, D))": "2(A, 2(B, C, D))", "2(A, 1(2(B, C)))": "3(A, B, C)", "1(A, 1(1(B, C)))": "1(A, B, C)",
		"1(1(2(1(A), 1(2(B, C)))))": "3(A, B, C)", "2(1(A), 1(B))": "2(A, B)", "3(A, 2(B, 2(C, D)), 1(A))": "5(A, B, C, D, A)", "1(2(A, 1(B)), 1(C))": "1(2(A, B), C)",
	} {
		expect(t, "TidyGate of "+text, show(impl.TidyGate(4, gate(text))), gate(want), impl.OK)
	}
	for _, g := range limitGates() {
		expect(t, "tidy at a limit", show(impl.TidyGate(1, g)), gate(tidyAtLimit(g)), impl.OK)
	}
}

// tidyAtLimit writes what limitGates are when they are tidy.
func tidyAtLimit(g impl.Gate) string {
	leaves := strings.Count(textOf(g), "A")
	if leaves == 1 {
		return "A"
	}
	return string('0'+rune(g.Least)) + "(" + strings.Repeat("A, ", leaves-1) + "A)"
}

func TestPromise4PutGates(t *testing.T) {
	gates := append(someGates(3, 30), gate("A"), gate("1(C)"), gate("2(A, B, 1(C, A))"), gate("1(A, A, A)"))
	for _, g := range gates {
		for _, by := range gates {
			for h := range int64(3) {
				checkPutGate(t, g, h, by)
			}
		}
	}
}

func checkPutGate(t *testing.T, g impl.Gate, h int64, by impl.Gate) {
	t.Helper()
	text := strings.ReplaceAll(textOf(g), "ABC"[h:h+1], textOf(by))
	want, what := gate(text), "PutGate of "+show(textOf(g), h, textOf(by))
	if !isGate(3, want) {
		expect(t, what, show(impl.PutGate(3, g, h, by)), impl.Gate{}, impl.ErrLimit)
		return
	}
	put, code := impl.PutGate(3, g, h, by)
	expect(t, what, show(put, code), want, impl.OK)
	r := newRule(3, func(mask int) bool {
		if isOpen(by, mask) {
			return isOpen(g, mask|1<<h)
		}
		return isOpen(g, mask&^(1<<h))
	})
	expect(t, "the family of the "+what, show(impl.FamilyOfGate(3, put)), r.family(), impl.OK)
}

func TestPromise4PutGateErrors(t *testing.T) {
	good, none := gate("1(A, B)"), show(impl.Gate{}, impl.ErrInvalid)
	for _, broken := range brokenGates() {
		for _, h := range []int64{0, 2, 3, -1} {
			if one, two := show(impl.PutGate(3, broken, h, good)), show(impl.PutGate(3, good, h, broken)); one != none || two != none {
				t.Errorf("PutGate with the broken gate %v: %s and %s", broken, one, two)
			}
		}
	}
	for _, holders := range []int64{0, -1, 8, -1 << 63, 1<<63 - 1} {
		expect(t, "no holders", show(impl.PutGate(holders, good, 0, good)), impl.Gate{}, impl.ErrInvalid)
	}
	for _, h := range []int64{-1, 3, 7, -1 << 63, 1<<63 - 1} {
		expect(t, "no holder", show(impl.PutGate(3, good, h, good)), impl.Gate{}, impl.ErrRange)
		expect(t, "no holder, before too much", show(impl.PutGate(3, wide(60), h, good)), impl.Gate{}, impl.ErrRange)
	}
	ok := func(g impl.Gate, code int64) string { return show(impl.GateSize(g), code) }
	over := show(impl.Gate{}, impl.ErrLimit)
	expect(t, "60 nodes", ok(impl.PutGate(3, gateOf(1, leafOf(0), leafOf(1)), 0, wide(58))), 60, impl.OK)
	expect(t, "61 nodes", show(impl.PutGate(3, gateOf(1, leafOf(0), leafOf(1)), 0, wide(59))), impl.Gate{}, impl.ErrLimit)
	expect(t, "a depth of 12", ok(impl.PutGate(3, chain(6), 0, chain(7))), 12, impl.OK)
	expect(t, "a depth of 13", show(impl.PutGate(3, chain(7), 0, chain(7))), impl.Gate{}, impl.ErrLimit)
	expect(t, "nothing to replace", ok(impl.PutGate(3, wide(60), 1, wide(60))), 60, impl.OK)
	if got := show(impl.PutGate(3, wide(60), 0, wide(60))); got != over {
		t.Errorf("59 times 60 nodes: %s", got)
	}
}

func TestPromise4Leaves(t *testing.T) {
	everyGate(func(holders int64, g impl.Gate) {
		var want []int64
		for h := range holders {
			want = append(want, int64(strings.Count(textOf(g), "ABCDEFG"[h:h+1])))
		}
		expect(t, "LeavesOf "+textOf(g), show(impl.LeavesOf(holders, g)), want, impl.OK)
	})
	expect(t, "59 leaves", show(impl.LeavesOf(2, wide(60))), []int64{59, 0}, impl.OK)
}

// listsUpTo returns all lists with so many numbers from 1 to most.
func listsUpTo(length int, most int64) [][]int64 {
	if length == 0 {
		return [][]int64{{}}
	}
	var lists [][]int64
	for _, list := range listsUpTo(length-1, most) {
		for last := int64(1); last <= most; last++ {
			lists = append(lists, append(slices.Clone(list), last))
		}
	}
	return lists
}

func TestPromise4Levels(t *testing.T) {
	for levels := 1; levels <= 4; levels++ {
		for _, sizes := range listsUpTo(levels, 4) {
			for _, leasts := range listsUpTo(levels, 5) {
				checkLevels(t, sizes, leasts)
			}
		}
	}
	for _, sizes := range [][]int64{repeat(int64(1), 7), {7}, {1, 6}, {6, 1}, {3, 1, 3}} {
		total := int64(0)
		for _, size := range sizes {
			total += size
		}
		checkLevels(t, sizes, repeat(int64(1), len(sizes)))
		checkLevels(t, sizes, append(repeat(int64(1), len(sizes)-1), total))
		checkLevels(t, sizes, append(repeat(int64(1), len(sizes)-1), total+1))
	}
}

func checkLevels(t *testing.T, sizes, leasts []int64) {
	t.Helper()
	what, holders, text := "LevelGate of "+show(sizes, leasts), int64(0), ""
	ends := []int{}
	for i, size := range sizes {
		holders += size
		if holders > 7 || leasts[i] > holders {
			expect(t, what, show(impl.LevelGate(sizes, leasts)), impl.Gate{}, impl.ErrRange)
			return
		}
		ends = append(ends, 1<<holders-1)
		text += ", " + string('0'+rune(leasts[i])) + "(A, B, C, D, E, F, G"[:3*holders-1] + ")"
	}
	want := gate("1(" + text[2:] + ")")
	expect(t, what, show(impl.LevelGate(sizes, leasts)), want, impl.OK)
	r := newRule(int(holders), func(mask int) bool {
		for i, end := range ends {
			if len(members(mask&end)) >= int(leasts[i]) {
				return true
			}
		}
		return false
	})
	expect(t, "the family of the "+what, show(impl.FamilyOfGate(holders, want)), r.family(), impl.OK)
}

func TestPromise4LevelErrors(t *testing.T) {
	const least, most = -1 << 63, 1<<63 - 1
	for _, lists := range [][2][]int64{
		{nil, nil}, {{}, {}}, {nil, {1}}, {{1}, nil}, {{1, 1}, {1}}, {{1}, {1, 1}}, {{0}, {1}}, {{-1}, {1}}, {{8}, {1}}, {{least}, {1}}, {{most}, {1}},
		{{1, 0}, {1, 1}}, {{4, 4}, {1, 1}}, {{7, 1}, {1, 1}}, {{1, most}, {1, 1}}, {{most, most}, {1, 1}}, {repeat(int64(1), 8), repeat(int64(1), 8)},
		{{2}, {0}}, {{2}, {3}}, {{2}, {-1}}, {{2}, {least}}, {{2}, {most}}, {{2, 2}, {3, 3}}, {{2, 2}, {1, 5}}, {{2, 2}, {1, 0}}, {{9, -2}, {1, 1}},
	} {
		expect(t, "LevelGate of "+show(lists), show(impl.LevelGate(lists[0], lists[1])), impl.Gate{}, impl.ErrRange)
	}
	expect(t, "one level", show(impl.LevelGate([]int64{1}, []int64{1})), gate("1(1(A))"), impl.OK)
	expect(t, "all the same", show(impl.LevelGate([]int64{2, 1}, []int64{2, 3})), gate("1(2(A, B), 3(A, B, C))"), impl.OK)
	g, code := impl.LevelGate(repeat(int64(1), 7), countTo(8)[1:])
	expect(t, "7 levels", show(impl.GateSize(g), code), 36, impl.OK)
}

func TestPromise4Errors(t *testing.T) {
	for _, g := range brokenGates() {
		for _, group := range [][]int64{nil, {0}, {9}, {1, 0}} {
			expect(t, "GateOpens", show(impl.GateOpens(3, g, group)), false, impl.ErrInvalid)
		}
		expect(t, "GateText", show(impl.GateText(3, g)), "")
		expect(t, "FamilyOfGate", show(impl.FamilyOfGate(3, g)), impl.Family{}, impl.ErrInvalid)
		expect(t, "DualGate", show(impl.DualGate(3, g)), impl.Gate{}, impl.ErrInvalid)
		expect(t, "TidyGate", show(impl.TidyGate(3, g)), impl.Gate{}, impl.ErrInvalid)
		expect(t, "LeavesOf", show(impl.LeavesOf(3, g)), []int64{}, impl.ErrInvalid)
	}
	good := gate("2(A, B, C)")
	for _, holders := range []int64{0, 2, 8, -1, -1 << 63, 1<<63 - 1} {
		expect(t, "GateOpens", show(impl.GateOpens(holders, good, nil)), false, impl.ErrInvalid)
		expect(t, "FamilyOfGate", show(impl.FamilyOfGate(holders, good)), impl.Family{}, impl.ErrInvalid)
		expect(t, "DualGate", show(impl.DualGate(holders, good)), impl.Gate{}, impl.ErrInvalid)
		expect(t, "TidyGate", show(impl.TidyGate(holders, good)), impl.Gate{}, impl.ErrInvalid)
		expect(t, "LeavesOf", show(impl.LeavesOf(holders, good)), []int64{}, impl.ErrInvalid)
	}
	for _, group := range [][]int64{{3}, {-1}, {0, 3}, {1, 0}, {2, 2}, countTo(4), {-1 << 63}, {1<<63 - 1}} {
		expect(t, "GateOpens", show(impl.GateOpens(3, good, group)), false, impl.ErrRange)
	}
}
