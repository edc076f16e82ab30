package tests

import (
	"fmt"
	"slices"
	"strings"
	"testing"

	"loop.example/g01117/impl"
)

// TestPromise19AllCeremonies does each one of all deeds that matter in each of the first ceremonies that can come of them.
func TestPromise19AllCeremonies(t *testing.T) {
	for i, d := range tinyDeals() {
		most := 40
		if i%14 == 13 {
			most = 300
		}
		opens := ruleOfScheme(d.Scheme)
		type path struct {
			w     world
			list  []impl.Deed
			codes []int64
		}
		seen := map[string]bool{}
		queue := []path{{w: newWorld(d)}}
		for ; len(queue) > 0 && most > 0; most-- {
			at := queue[0]
			queue = queue[1:]
			for _, deed := range deedsThatMatter(d) {
				next, code := at.w.after(deed)
				list, codes := append(slices.Clone(at.list), deed), append(slices.Clone(at.codes), code)
				what := fmt.Sprintf("the tiny deal %d", i)
				checkAfter(t, what, list, next, codes)
				checkGuarantees(t, what, d, list, next.liars, opens)
				if text := show(next.now); !seen[text] && len(next.now.Wire) < 4 {
					seen[text] = true
					queue = append(queue, path{next, list, codes})
				}
			}
		}
		if len(seen) < 80 {
			t.Errorf("the tiny deal %d: only %d ceremonies", i, len(seen))
		}
	}
}

// deedsThatMatter returns deeds about all holders and the first two packets, and one that is refused of each kind.
func deedsThatMatter(d impl.Deal) []impl.Deed {
	list := deeds("deliver 0", "deliver 1", "copy 0", "copy 1", "drop 0", "drop 1", "renew", "deliver 12", "copy 12", "drop 12")
	for h := range d.Scheme.Holders + 1 {
		for _, word := range []string{"give", "hand", "save", "crash"} {
			list = append(list, deeds(fmt.Sprintf("%s %d", word, h))...)
		}
		for _, lie := range []int64{0, d.Scheme.Matrix.Prime - 1, d.Scheme.Matrix.Prime} {
			list = append(list, deeds(fmt.Sprintf("lie %d %d", h, lie))...)
		}
	}
	return list
}

// TestPromise19Doubles compares ceremonies in which packets come in once, twice, or later again.
func TestPromise19Doubles(t *testing.T) {
	draw := drawer(85)
	compared := 0
	for i, d := range append(tinyDeals(), exampleDeal(3)) {
		for range 30 {
			list := someDeeds(draw, d, int(draw(30)))
			now, _, _ := impl.CeremonyAfter(d, list)
			for at := range now.Wire {
				compared++
				what := fmt.Sprintf("the tiny deal %d after %v, the packet %d", i, deedTexts(list), at)
				after := func(words ...string) string {
					var texts []string
					for _, word := range words {
						texts = append(texts, fmt.Sprint(word, " ", at))
					}
					c, _, code := impl.CeremonyAfter(d, slices.Concat(list, deeds(texts...)))
					return show(c, code)
				}
				expect(t, what+" twice", show(after("copy", "copy")), after("copy"))
				expect(t, what+" at last", show(after("copy", "deliver")), after("deliver"))
				expect(t, what+" and then lost", show(after("copy", "drop")), after("deliver"))
				lost := now
				lost.Wire = slices.Delete(slices.Clone(now.Wire), at, at+1)
				expect(t, what+" lost", show(after("drop")), show(lost, impl.OK))
			}
		}
	}
	if compared < 1000 {
		t.Errorf("only %d packets", compared)
	}
}

// TestPromise19Packets follows packets to holders: earlier, the same and later epochs, and ones that come twice or not in order.
func TestPromise19Packets(t *testing.T) {
	d := exampleDeal(4)
	purse := func(texts string) string {
		c, _, code := impl.CeremonyAfter(d, deeds(strings.Split(texts, ", ")...))
		return show(c.Seats[1].Purse, len(c.Wire), code)
	}
	zero, one, two := impl.Purse{Epoch: 0, Values: []int64{1}, Tags: []int64{0}}, impl.Purse{Epoch: 1, Values: []int64{0}, Tags: []int64{3}}, impl.Purse{Epoch: 2, Values: []int64{4}, Tags: []int64{1}}
	nothing := impl.Purse{Epoch: -1}
	expect(t, "given, but not delivered", purse("give 1"), nothing, 1, 0)
	expect(t, "delivered", purse("give 1, deliver 0"), zero, 0, 0)
	expect(t, "delivered and still on the wire", purse("give 1, copy 0"), zero, 1, 0)
	expect(t, "lost", purse("give 1, drop 0"), nothing, 0, 0)
	expect(t, "given to another one", purse("give 0, deliver 0"), nothing, 0, 0)
	expect(t, "given before the epoch, and delivered in it", purse("give 1, renew, deliver 0"), zero, 0, 0)
	expect(t, "a later epoch", purse("give 1, renew, give 1, deliver 0, deliver 0"), one, 0, 0)
	expect(t, "an earlier epoch", purse("give 1, renew, give 1, deliver 1, deliver 0"), one, 0, 0)
	expect(t, "an earlier epoch, but lost", purse("give 1, renew, give 1, deliver 1, drop 0"), one, 0, 0)
	expect(t, "an earlier epoch that comes twice", purse("give 1, copy 0, renew, renew, give 1, copy 1, copy 0, copy 0"), two, 2, 0)
	expect(t, "an epoch left out", purse("give 1, deliver 0, renew, give 1, renew, give 1, deliver 1, deliver 0"), two, 0, 0)
	expect(t, "an epoch after another one", purse("renew, give 1, renew, give 1, copy 0, deliver 1"), two, 1, 0)
	expect(t, "the last packets first", purse("give 1, give 0, renew, give 1, give 2, deliver 3, deliver 2, deliver 1, deliver 0"), one, 0, 0)
	expect(t, "its own packets do not come back to it", purse("give 1, deliver 0, hand 1, renew, deliver 0"), zero, 0, 0)
}

// TestPromise19Crashes: a holder that crashes has what it has saved.
func TestPromise19Crashes(t *testing.T) {
	d := exampleDeal(4)
	seat := func(texts string) string {
		c, _, code := impl.CeremonyAfter(d, deeds(strings.Split(texts, ", ")...))
		return show(c.Seats[2].Purse, c.Seats[2].Saved, c.Seats[2].Lie, code)
	}
	nothing := impl.Purse{Epoch: -1}
	zero, one := impl.Purse{Epoch: 0, Values: []int64{2}, Tags: []int64{2}}, impl.Purse{Epoch: 1, Values: []int64{3}, Tags: []int64{4}}
	expect(t, "before anything is there", seat("crash 2"), nothing, nothing, 0, 0)
	expect(t, "before anything is there, but saved", seat("save 2, crash 2"), nothing, nothing, 0, 0)
	expect(t, "before anything is saved", seat("give 2, deliver 0, crash 2"), nothing, nothing, 0, 0)
	expect(t, "nothing has been saved", seat("save 2, give 2, deliver 0, crash 2"), nothing, nothing, 0, 0)
	expect(t, "not saved", seat("give 2, deliver 0"), zero, nothing, 0, 0)
	expect(t, "saved", seat("give 2, deliver 0, save 2"), zero, zero, 0, 0)
	expect(t, "after something is saved", seat("give 2, deliver 0, save 2, crash 2"), zero, zero, 0, 0)
	expect(t, "after something is saved, twice", seat("give 2, deliver 0, save 2, crash 2, crash 2"), zero, zero, 0, 0)
	expect(t, "a later epoch", seat("give 2, deliver 0, save 2, renew, give 2, deliver 0"), one, zero, 0, 0)
	expect(t, "a later epoch is lost", seat("give 2, deliver 0, save 2, renew, give 2, deliver 0, crash 2"), zero, zero, 0, 0)
	expect(t, "a later epoch is saved", seat("give 2, deliver 0, save 2, renew, give 2, deliver 0, save 2, crash 2"), one, one, 0, 0)
	expect(t, "an earlier epoch comes after the crash", seat("give 2, copy 0, renew, give 2, deliver 1, crash 2, deliver 0"), zero, nothing, 0, 0)
	expect(t, "nothing comes of what is handed", seat("give 2, deliver 0, save 2, hand 2, crash 2, deliver 0"), zero, zero, 0, 0)
	expect(t, "lies stay", seat("give 2, deliver 0, lie 2 3, save 2, lie 2 4, crash 2"), zero, zero, 4, 0)
	expect(t, "another one saves", seat("give 2, deliver 0, save 1, crash 2"), nothing, nothing, 0, 0)
	expect(t, "another one crashes", seat("give 2, deliver 0, save 2, crash 1"), zero, zero, 0, 0)
	expect(t, "a saved purse, with another one there", seat("give 2, deliver 0, save 2, renew, give 2, deliver 0, crash 2, give 2, deliver 0"), one, zero, 0, 0)
	tell(t, d, "give 2: ok", "deliver 0: ok", "crash 2: ok", "hand 2: error state", "give 2: ok", "deliver 0: ok", "hand 2: ok", "crash 2: ok", "deliver 0: ok", "has: C", "hand 2: error state", "save 2: ok", "crash 2: ok", "hand 2: error state")
}

// TestPromise19Refused gives deeds that are refused, in all circumstances that could be refused for several reasons.
func TestPromise19Refused(t *testing.T) {
	d := exampleDeal(4)
	full := repeat("give 0: ok", 12)
	tell(t, d, slices.Concat(full, []string{"give 0: error limit", "give 1: error limit", "give 3: error range", "give 999: error range", "hand 0: error state", "hand 1: error state", "hand 3: error range",
		"copy 0: ok", "hand 0: error limit", "hand 1: error state", "hand 3: error range", "deliver 12: error range", "copy 12: error range", "drop 12: error range", "copy 11: ok", "drop 11: ok", "hand 0: ok", "hand 0: error limit", "give 0: error limit", "deliver 11: ok", "has: A"})...)
	tell(t, d, "deliver 0: error range", "copy 0: error range", "drop 0: error range", "hand 0: error state", "give 0: ok", "deliver 1: error range", "copy 1: error range", "drop 1: error range", "deliver 999: error range", "drop 0: ok", "drop 0: error range", "hand 0: error state")
	tell(t, d, "lie 0 4: ok", "lie 0 5: error range", "lie 0 999: error range", "lie 3 0: error range", "lie 3 5: error range", "lie 999 999: error range", "lie 2 0: ok", "save 2: ok", "save 3: error range", "save 999: error range", "crash 2: ok", "crash 3: error range", "crash 999: error range")
	for epochs := 1; epochs <= impl.MaxEpochs; epochs++ {
		tell(t, exampleDeal(epochs), slices.Concat(repeat("renew: ok", epochs-1), []string{"renew: error limit", "renew: error limit", fmt.Sprint("epoch: ", epochs-1), "give 0: ok", "deliver 0: ok", "hand 0: ok", "deliver 0: ok", "give 1: ok", "deliver 0: ok", "hand 1: ok", "deliver 0: ok", "has: AB", "open: 4"})...)
	}
	// A refused lie leaves the one before.
	tell(t, d, "give 0: ok", "deliver 0: ok", "lie 0 1: ok", "lie 0 5: error range", "lie 3 0: error range", "hand 0: ok", "deliver 0: ok", "named: A")
	// The first refused deed is told, whatever follows.
	list := deeds("give 0", "give 0", "renew", "hand 0", "give 7", "deliver 0", "hand 0")
	expect(t, "RefusedDeed", show(impl.RefusedDeed(d, list)), 3, impl.ErrState, impl.OK)
	expect(t, "RefusedDeed", show(impl.RefusedDeed(d, list[4:])), 0, impl.ErrRange, impl.OK)
	expect(t, "RefusedDeed", show(impl.RefusedDeed(d, slices.Concat(deeds("renew", "renew", "renew", "renew"), list))), 3, impl.ErrLimit, impl.OK)
	expect(t, "RefusedDeed", show(impl.RefusedDeed(d, list[:3])), 0, 0, impl.ErrNotFound)
	c, done, code := impl.CeremonyAfter(d, list)
	expect(t, "deeds done", show(done, len(c.Wire), code), 5, 2, impl.OK)
}

// TestPromise19FullWire gathers in spite of a full wire, and finds the limit by packets of both kinds.
func TestPromise19FullWire(t *testing.T) {
	d := exampleDeal(1)
	list := deeds("give 0", "copy 0", "give 1", "copy 1")
	for k := range 20 {
		list = append(list, deeds(fmt.Sprint("hand ", k%2))...)
		c, done, code := impl.CeremonyAfter(d, list)
		expect(t, fmt.Sprint(k+3, " packets"), show(len(c.Wire), done, code), min(k+3, impl.MaxWire), min(k+5, impl.MaxWire+2), impl.OK)
	}
	plan, code := impl.GatherDeeds(d, list, countTo(3))
	expect(t, "GatherDeeds", show(len(plan), plan[11], plan[12], code), 12+15, impl.Deed{Kind: impl.DdDrop}, impl.Deed{Kind: impl.DdGive}, impl.OK)
	expect(t, "OpenAfter", show(impl.OpenAfter(d, slices.Concat(list, plan))), 4, impl.OK)
	// The order of the packets on the wire is that in which they were added.
	c, _, _ := impl.CeremonyAfter(exampleDeal(2), deeds("give 2", "copy 0", "give 1", "hand 2", "give 0", "renew", "give 0", "drop 1", "deliver 2"))
	expect(t, "the wire", show(c.Wire), []impl.Packet{{Holder: 2, Values: []int64{2}, Tags: []int64{2}}, {Back: true, Holder: 2, Values: []int64{2}, Tags: []int64{2}}, {Holder: 0, Epoch: 1, Values: []int64{2}, Tags: []int64{2}}})
	expect(t, "the purse of the holder 0", show(c.Seats[0].Purse), impl.Purse{Values: []int64{0}, Tags: []int64{3}})
}

// TestPromise19Scripts compares the answers to arbitrary lines with what a world answers.
func TestPromise19Scripts(t *testing.T) {
	draw := drawer(86)
	others := []string{"open", "open", "named", "has", "has", "epoch", "", "what", "Open", "open ", "give", "lie 0", "renew 0", "give 00", "give 1000", "\x00", "\xff", "give 0\r", "deliver -1", "error", "ok"}
	counts := map[string]int{}
	for i, d := range someDeals() {
		var lines []string
		for _, deed := range someDeeds(draw, d, int(draw(int64(impl.MaxScriptLines+1)))) {
			line := deedText(deed)
			if draw(3) == 0 {
				line = others[draw(int64(len(others)))]
			}
			lines = append(lines, line)
		}
		w, answers, answer := newWorld(d), "", ""
		for _, line := range lines {
			answer, w = w.answer(line)
			answers += answer + "\n"
			counts[answer]++
		}
		text := strings.Join(lines, "\n")
		if draw(2) == 0 && len(lines) > 0 || len(lines) > 0 && lines[len(lines)-1] == "" {
			text += "\n"
		}
		if got, code := impl.RunScript(d, text); got != answers || code != impl.OK {
			t.Errorf("the deal %d: RunScript of %q is %q and %d, and should be %q", i, text, got, code, answers)
		}
	}
	for _, answer := range []string{"ok", "what", "error range", "error limit", "error state", "error notfound", "-", "A", "B", "AB", "0", "1", "2", "3"} {
		if counts[answer] < 3 {
			t.Errorf("the answer %s is given %d times", answer, counts[answer])
		}
	}
}

// TestPromise19LikeDeeds compares scripts of deeds with what the other functions tell of the same deeds.
func TestPromise19LikeDeeds(t *testing.T) {
	draw := drawer(87)
	for i, d := range append(tinyDeals(), exampleDeal(2), exampleDeal(4)) {
		for range 20 {
			list := someDeeds(draw, d, int(1+draw(100)))
			text, code := impl.RunScript(d, strings.Join(deedTexts(list), "\n")+"\nopen\nnamed\nhas\nepoch")
			what := fmt.Sprintf("the tiny deal %d: %v", i, deedTexts(list))
			expect(t, what, show(code), impl.OK)
			answers := strings.Split(text, "\n")
			c, done, _ := impl.CeremonyAfter(d, list)
			expect(t, what+": deeds done", show(strings.Count("\n"+strings.Join(answers[:len(list)], "\n")+"\n", "ok")), done)
			if at, refusal, code := impl.RefusedDeed(d, list); code == impl.OK {
				expect(t, what+": the first error", show(answers[at], slices.Index(answers, "error "+impl.CodeName(refusal)) == int(at)), "error "+impl.CodeName(refusal), true)
			}
			secret, code := impl.OpenAfter(d, list)
			open := fmt.Sprint(secret)
			if code != impl.OK {
				open = "error " + impl.CodeName(code)
			}
			named, _ := impl.NamedAfter(d, list)
			expect(t, what+": the last answers", show(answers[len(list):]), []string{open, impl.GroupText(named), impl.GroupText(members(maskWhere(c.Opener.Has))), fmt.Sprint(c.Epoch), ""})
		}
	}
}

// TestPromise19Lines is about the lines of scripts, and how many there may be.
func TestPromise19Lines(t *testing.T) {
	d := exampleDeal(2)
	for text, answers := range map[string]string{
		"": "", "\n": "what\n", "\n\n": "what\nwhat\n", "renew": "ok\n", "renew\n": "ok\n", "renew\n\n": "ok\nwhat\n", "\nrenew": "what\nok\n", "renew\nrenew": "ok\nerror limit\n", "renew\r\nrenew": "what\nok\n",
		"epoch\n": "0\n", "epoch\nrenew\nepoch": "0\nok\n1\n", "named\nhas\nopen\n": "-\n-\nerror notfound\n", "foo": "what\n", " ": "what\n", "\x00": "what\n", "\xff\xfe\n\xff": "what\nwhat\n", "open open": "what\n", "open\tnamed": "what\n", "has\u2028has": "what\n", "has\vhas": "what\n", "OPEN": "what\n",
		strings.Repeat("x", 20000): "what\n", strings.Repeat("x", 19999) + "\n": "what\n", strings.Repeat("\n", 120): strings.Repeat("what\n", 120), strings.Repeat("has\n", 120): strings.Repeat("-\n", 120), strings.Repeat("has\n", 119) + "epoch": strings.Repeat("-\n", 119) + "0\n",
		strings.Repeat("\n", 119) + strings.Repeat("x", 20000-119): strings.Repeat("what\n", 120), strings.Repeat("give 0\ndeliver 0\n", 60): strings.Repeat("ok\n", 120),
	} {
		got, code := impl.RunScript(d, text)
		expect(t, fmt.Sprintf("RunScript of %d bytes, %.40q", len(text), text), show(got, code), answers, impl.OK)
	}
	for _, text := range []string{strings.Repeat("x", 20001), strings.Repeat("x", 20000) + "\n", "\n" + strings.Repeat("x", 20000), strings.Repeat("\n", 121), strings.Repeat("has\n", 120) + "x", strings.Repeat("has\n", 120) + "\n", strings.Repeat("\n", 120) + " ", strings.Repeat("\n", 20000), strings.Repeat("\n", 20001), strings.Repeat("renew\n", 1000)} {
		expect(t, fmt.Sprintf("RunScript of %d bytes, %.40q", len(text), text), show(impl.RunScript(d, text)), "", impl.ErrRange)
	}
	expect(t, "no deal", show(impl.RunScript(impl.Deal{}, "")), "", impl.ErrInvalid)
	expect(t, "no deal, and too long a text", show(impl.RunScript(exampleDeal(5), strings.Repeat("x", 20001))), "", impl.ErrInvalid)
}
