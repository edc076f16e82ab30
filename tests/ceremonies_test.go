package tests

import (
	"fmt"
	"math"
	"regexp"
	"slices"
	"strconv"
	"strings"
	"testing"

	"loop.example/g01117/impl"
)

// The functions of this file say of ceremonies, from the words of the document, what the program is to return.

func isDeal(d impl.Deal) bool {
	epochs, p := len(d.Blinds), d.Scheme.Matrix.Prime
	if !isScheme(d.Scheme) || !areRemainders(p, []int64{d.Secret}) || epochs < 1 || epochs > 4 || len(d.Keys) != epochs {
		return false
	}
	for _, blinds := range d.Blinds {
		if int64(len(blinds)) != d.Scheme.Matrix.Cols-1 || !areRemainders(p, blinds) {
			return false
		}
	}
	for _, keys := range d.Keys {
		if len(keys) != len(d.Scheme.Owners) {
			return false
		}
		for _, key := range keys {
			if len(key) != 2 || !areRemainders(p, key) {
				return false
			}
		}
	}
	return true
}

// valuesBy returns the shares of the rows of a holder.
func valuesBy(d impl.Deal, epoch, h int64) []int64 {
	drawn := append([]int64{d.Secret}, d.Blinds[epoch]...)
	return sharesBy(matrixHeldBy(d.Scheme, 1<<h), drawn)
}

// tagsBy returns the tags of values of the rows of a holder.
func tagsBy(d impl.Deal, epoch, h int64, values []int64) []int64 {
	tags := []int64{}
	for i, row := range rowsHeldBy(d.Scheme, 1<<h) {
		key := d.Keys[epoch][row]
		tags = append(tags, (key[0]*values[i]+key[1])%d.Scheme.Matrix.Prime)
	}
	return tags
}

// liedBy returns values with a lie in the first of them.
func liedBy(p int64, values []int64, lie int64) []int64 {
	if len(values) == 0 {
		return values
	}
	return append([]int64{(values[0] + lie) % p}, values[1:]...)
}

// firstKey returns the first element of the key of the first row of a holder in an epoch, and false if it has no rows.
func firstKey(d impl.Deal, epoch, h int64) (int64, bool) {
	rows := rowsHeldBy(d.Scheme, 1<<h)
	if len(rows) == 0 {
		return 0, false
	}
	return d.Keys[epoch][rows[0]][0], true
}

// isStrict reports whether no lie that changes a share passes.
func isStrict(d impl.Deal) bool {
	for epoch := range int64(len(d.Blinds)) {
		for h := range d.Scheme.Holders {
			if key, some := firstKey(d, epoch, h); some && key == 0 {
				return false
			}
		}
	}
	return true
}

// dealOf returns a deal with arbitrary blinds and keys; in a strict one, no key has the first element 0.
func dealOf(draw func(int64) int64, s impl.Scheme, epochs int64, strict bool) impl.Deal {
	p := s.Matrix.Prime
	d := impl.Deal{Scheme: s, Secret: draw(p)}
	for range epochs {
		var blinds []int64
		for range s.Matrix.Cols - 1 {
			blinds = append(blinds, draw(p))
		}
		var keys [][]int64
		for range s.Owners {
			key := []int64{draw(p), draw(p)}
			switch {
			case strict:
				key[0] = 1 + draw(p-1)
			case draw(3) == 0:
				key[0] = 0
			}
			keys = append(keys, key)
		}
		d.Blinds, d.Keys = append(d.Blinds, blinds), append(d.Keys, keys)
	}
	return d
}

// exampleDeal is the one of the chapter's example, with further epochs.
func exampleDeal(epochs int) impl.Deal {
	d := impl.Deal{Scheme: scheme("scheme 3 5 2\nrow A 1 1\nrow B 1 2\nrow C 1 3\n"), Secret: 4}
	for epoch := range epochs {
		d.Blinds = append(d.Blinds, []int64{int64(1+2*epoch) % 5})
		d.Keys = append(d.Keys, repeat([]int64{2, 3}, 3))
	}
	return d
}

// tinyDeals have few holders and rows: some holders have none, some have two, which do not follow each other.
func tinyDeals() []impl.Deal {
	var deals []impl.Deal
	draw := drawer(80)
	for _, text := range []string{
		"scheme 1 2 1\nrow A 1\n", "scheme 1 2 1\n", "scheme 2 3 1\nrow B 1\n", "scheme 2 3 2\nrow A 1 1\nrow B 1 2\n", "scheme 2 5 3\nrow A 1 1 0\nrow B 0 1 2\nrow A 0 0 3\n",
		"scheme 3 2 2\nrow C 1 1\nrow A 0 1\nrow C 0 1\n", "scheme 2 3 2\nrow B 1 1\nrow A 1 2\nrow B 1 0\nrow A 0 1\n",
	} {
		for epochs := int64(1); epochs <= 3; epochs++ {
			deals = append(deals, dealOf(draw, scheme(text), epochs, false), dealOf(draw, scheme(text), epochs, true))
		}
	}
	return deals
}

// someDeals returns deals of schemes of all primes and sizes, half of them strict.
func someDeals() []impl.Deal {
	deals := append(tinyDeals(), exampleDeal(1), exampleDeal(2), exampleDeal(4))
	draw := drawer(81)
	for i, s := range someSchemes() {
		deals = append(deals, dealOf(draw, s, 1+draw(4), i%2 == 0))
	}
	for i, s := range smallSchemes() {
		if i%40 == 0 {
			deals = append(deals, dealOf(draw, s, 1+draw(4), i%80 == 0))
		}
	}
	return deals
}

// changedDeal returns a deal that is changed in lists of its own.
func changedDeal(d impl.Deal, change func(d *impl.Deal)) impl.Deal {
	copied := impl.Deal{Scheme: d.Scheme, Secret: d.Secret}
	for _, blinds := range d.Blinds {
		copied.Blinds = append(copied.Blinds, slices.Clone(blinds))
	}
	for _, keys := range d.Keys {
		var list [][]int64
		for _, key := range keys {
			list = append(list, slices.Clone(key))
		}
		copied.Keys = append(copied.Keys, list)
	}
	change(&copied)
	return copied
}

// brokenDeals are not valid, each for a reason of its own.
func brokenDeals() []impl.Deal {
	const least, most = math.MinInt64, math.MaxInt64
	good := exampleDeal(2)
	deals := []impl.Deal{{}}
	add := func(change func(d *impl.Deal)) { deals = append(deals, changedDeal(good, change)) }
	for _, s := range brokenSchemes() {
		keys := repeat([]int64{0, 0}, len(s.Owners))
		deals = append(deals, impl.Deal{Scheme: s, Blinds: [][]int64{repeat(int64(0), int(max(0, min(s.Matrix.Cols-1, 20))))}, Keys: [][][]int64{keys}})
	}
	for _, wrong := range []int64{-1, 5, 6, least, most} {
		add(func(d *impl.Deal) { d.Secret = wrong })
		add(func(d *impl.Deal) { d.Blinds[1][0] = wrong })
		add(func(d *impl.Deal) { d.Keys[0][0][0] = wrong })
		add(func(d *impl.Deal) { d.Keys[1][2][1] = wrong })
	}
	for _, list := range [][]int64{nil, {}, {1}, {1, 2, 3}} {
		add(func(d *impl.Deal) { d.Keys[1][2] = list })
		if len(list) != 1 {
			add(func(d *impl.Deal) { d.Blinds[0] = list })
			add(func(d *impl.Deal) { d.Blinds[1] = list })
		}
	}
	add(func(d *impl.Deal) { d.Blinds, d.Keys = nil, nil })
	add(func(d *impl.Deal) { d.Blinds = d.Blinds[:1] })
	add(func(d *impl.Deal) { d.Keys = d.Keys[:1] })
	add(func(d *impl.Deal) { d.Blinds = nil })
	add(func(d *impl.Deal) { d.Keys = nil })
	add(func(d *impl.Deal) { d.Blinds = append(d.Blinds, []int64{0}) })
	add(func(d *impl.Deal) { d.Keys = append(d.Keys, d.Keys[0]) })
	add(func(d *impl.Deal) { d.Keys[1] = d.Keys[1][:2] })
	add(func(d *impl.Deal) { d.Keys[1] = nil })
	add(func(d *impl.Deal) { d.Keys[0] = append(d.Keys[0], []int64{0, 0}) })
	return append(deals, exampleDeal(5), exampleDeal(40))
}

var deedForm = regexp.MustCompile(`^(?:(give|hand|deliver|copy|drop|save|crash) (0|[1-9][0-9]?[0-9]?)|(lie) (0|[1-9][0-9]?[0-9]?) (0|[1-9][0-9]?[0-9]?)|(renew))$`)

var kindsByWord = map[string]int64{"give": 1, "hand": 2, "deliver": 3, "copy": 4, "drop": 5, "lie": 6, "save": 7, "crash": 8, "renew": 9}

// deedWithText returns the deed of a text, if it is one.
func deedWithText(text string) (impl.Deed, bool) {
	parts := deedForm.FindStringSubmatch(text)
	if parts == nil {
		return impl.Deed{}, false
	}
	number := func(text string) int64 {
		n, _ := strconv.Atoi(text)
		return int64(n)
	}
	return impl.Deed{Kind: kindsByWord[parts[1]+parts[3]+parts[6]], A: number(parts[2] + parts[4]), B: number(parts[5])}, true
}

func deedText(d impl.Deed) string {
	word := []string{"", "give", "hand", "deliver", "copy", "drop", "lie", "save", "crash", "renew"}[d.Kind]
	switch d.Kind {
	case impl.DdRenew:
		return word
	case impl.DdLie:
		return fmt.Sprintf("%s %d %d", word, d.A, d.B)
	}
	return fmt.Sprintf("%s %d", word, d.A)
}

// deeds returns the deeds of texts that are known to be some.
func deeds(texts ...string) []impl.Deed {
	list := []impl.Deed{}
	for _, text := range texts {
		deed, ok := deedWithText(text)
		if !ok {
			panic("no deed: " + text)
		}
		list = append(list, deed)
	}
	return list
}

func deedTexts(list []impl.Deed) []string {
	texts := []string{}
	for _, deed := range list {
		texts = append(texts, deedText(deed))
	}
	return texts
}

// A world is a ceremony in which deeds are done one by one; after makes a new one of it, as its lists are never changed.
type world struct {
	deal  impl.Deal
	now   impl.Ceremony
	liars int // who have handed a share that was not theirs
}

func newWorld(d impl.Deal) world {
	w := world{deal: d}
	n := int(d.Scheme.Holders)
	nothing := impl.Purse{Epoch: -1}
	w.now.Seats = repeat(impl.Seat{Purse: nothing, Saved: nothing}, n)
	w.now.Opener = impl.Opener{Epoch: -1, Got: make([][]int64, n), Has: make([]bool, n), Named: make([]bool, n)}
	return w
}

// after returns what is after a deed, or what was before it and the code of its error.
func (w world) after(deed impl.Deed) (world, int64) {
	const noSuch, tooMany, notNow = 2, 3, 4
	before, c, a := w, &w.now, deed.A
	c.Seats, c.Wire = slices.Clone(c.Seats), slices.Clone(c.Wire)
	switch deed.Kind {
	case impl.DdGive, impl.DdHand, impl.DdLie, impl.DdSave, impl.DdCrash:
		if a >= w.deal.Scheme.Holders {
			return before, noSuch
		}
	case impl.DdDeliver, impl.DdCopy, impl.DdDrop:
		if a >= int64(len(c.Wire)) {
			return before, noSuch
		}
	}
	switch deed.Kind {
	case impl.DdGive:
		values := valuesBy(w.deal, c.Epoch, a)
		c.Wire = append(c.Wire, impl.Packet{Holder: a, Epoch: c.Epoch, Values: values, Tags: tagsBy(w.deal, c.Epoch, a, values)})
	case impl.DdHand:
		purse := c.Seats[a].Purse
		if purse.Epoch == -1 {
			return before, notNow
		}
		if c.Seats[a].Lie != 0 && len(purse.Values) > 0 {
			w.liars |= 1 << a
		}
		c.Wire = append(c.Wire, impl.Packet{Back: true, Holder: a, Epoch: purse.Epoch, Values: liedBy(w.deal.Scheme.Matrix.Prime, purse.Values, c.Seats[a].Lie), Tags: purse.Tags})
	case impl.DdDeliver:
		p := c.Wire[a]
		c.Wire = slices.Delete(c.Wire, int(a), int(a)+1)
		w.comeIn(p)
	case impl.DdCopy:
		w.comeIn(c.Wire[a])
	case impl.DdDrop:
		c.Wire = slices.Delete(c.Wire, int(a), int(a)+1)
	case impl.DdLie:
		if deed.B >= w.deal.Scheme.Matrix.Prime {
			return before, noSuch
		}
		c.Seats[a].Lie = deed.B
	case impl.DdSave:
		c.Seats[a].Saved = c.Seats[a].Purse
	case impl.DdCrash:
		c.Seats[a].Purse = c.Seats[a].Saved
	case impl.DdRenew:
		if c.Epoch+1 == int64(len(w.deal.Blinds)) {
			return before, tooMany
		}
		c.Epoch++
	}
	if len(c.Wire) > 12 {
		return before, tooMany
	}
	return w, 0
}

// comeIn lets a packet come in; the seats are this world's own already.
func (w *world) comeIn(p impl.Packet) {
	o, h := &w.now.Opener, p.Holder
	if !p.Back {
		if seat := &w.now.Seats[h]; p.Epoch > seat.Purse.Epoch {
			seat.Purse = impl.Purse{Epoch: p.Epoch, Values: p.Values, Tags: p.Tags}
		}
		return
	}
	n := len(o.Has)
	o.Got, o.Has, o.Named = slices.Clone(o.Got), slices.Clone(o.Has), slices.Clone(o.Named)
	if p.Epoch > o.Epoch {
		o.Epoch, o.Got, o.Has = p.Epoch, make([][]int64, n), make([]bool, n)
	}
	if p.Epoch == o.Epoch && !o.Named[h] && !o.Has[h] {
		if slices.Equal(p.Tags, tagsBy(w.deal, p.Epoch, h, p.Values)) {
			o.Has[h], o.Got[h] = true, p.Values
		} else {
			o.Named[h] = true
		}
	}
}

// afterAll returns what is after deeds, and the codes of all of them.
func (w world) afterAll(list []impl.Deed) (world, []int64) {
	codes := []int64{}
	for _, deed := range list {
		next, code := w.after(deed)
		w, codes = next, append(codes, code)
	}
	return w, codes
}

// maskWhere returns the mask of the holders for which a list is true.
func maskWhere(list []bool) int {
	mask := 0
	for h, is := range list {
		if is {
			mask |= 1 << h
		}
	}
	return mask
}

func (w world) has() int { return maskWhere(w.now.Opener.Has) }

func (w world) named() int { return maskWhere(w.now.Opener.Named) }

// open returns the secret that the opener finds, and the code, as Rebuild is to return them.
func (w world) open() (int64, int64) {
	return impl.Rebuild(w.deal.Scheme, members(w.has()), w.held())
}

// held returns the values that the opener has, in the order of their rows.
func (w world) held() []int64 {
	held := []int64{}
	next := map[int64]int{}
	for _, row := range rowsHeldBy(w.deal.Scheme, w.has()) {
		owner := w.deal.Scheme.Owners[row]
		held = append(held, w.now.Opener.Got[owner][next[owner]])
		next[owner]++
	}
	return held
}

// planFor returns the deeds that gather a group behind what is, and the code, if there were so many deeds before.
func (w world) planFor(group []int64, before int) ([]impl.Deed, int64) {
	if !isGroup(w.deal.Scheme.Holders, group) {
		return nil, 2
	}
	plan := repeat(impl.Deed{Kind: impl.DdDrop}, len(w.now.Wire))
	for _, h := range group {
		if w.now.Opener.Named[h] || w.now.Seats[h].Lie != 0 {
			return nil, 4
		}
		text := strconv.Itoa(int(h))
		plan = append(plan, deeds("give "+text, "deliver 0", "save "+text, "hand "+text, "deliver 0")...)
	}
	if before+len(plan) > 400 {
		return nil, 3
	}
	return plan, 0
}

func isGroup(holders int64, group []int64) bool {
	for i, h := range group {
		if h < 0 || h >= holders || i > 0 && group[i-1] >= h {
			return false
		}
	}
	return true
}

func groupText(mask int) string {
	text := ""
	for _, h := range members(mask) {
		text += ownerText(h)
	}
	if text == "" {
		return "-"
	}
	return text
}

// answer returns what a script answers to a line, and what is after it.
func (w world) answer(line string) (string, world) {
	names := []string{"ok", "invalid", "range", "limit", "state", "syntax", "notfound", "budget", "proof"}
	switch line {
	case "open":
		secret, code := w.open()
		if code != 0 {
			return "error " + names[code], w
		}
		return strconv.Itoa(int(secret)), w
	case "named":
		return groupText(w.named()), w
	case "has":
		return groupText(w.has()), w
	case "epoch":
		return strconv.Itoa(int(w.now.Epoch)), w
	}
	deed, ok := deedWithText(line)
	if !ok {
		return "what", w
	}
	next, code := w.after(deed)
	if code != 0 {
		return "error " + names[code], w
	}
	return "ok", next
}

// someDeeds returns deeds of which many can be done, and which bring much to the opener.
func someDeeds(draw func(int64) int64, d impl.Deal, count int) []impl.Deed {
	list := []impl.Deed{}
	kinds := []int64{1, 1, 1, 1, 2, 2, 2, 2, 3, 3, 3, 3, 3, 3, 3, 3, 4, 4, 4, 5, 6, 6, 7, 7, 8, 9}
	for len(list) < count {
		deed := impl.Deed{Kind: kinds[draw(int64(len(kinds)))]}
		switch deed.Kind {
		case impl.DdDeliver, impl.DdCopy, impl.DdDrop:
			deed.A = draw(3) * draw(3)
		case impl.DdLie:
			deed.A, deed.B = draw(d.Scheme.Holders), draw(3)*draw(d.Scheme.Matrix.Prime)
		case impl.DdRenew:
			if draw(2) == 0 {
				continue
			}
		default:
			deed.A = draw(d.Scheme.Holders)
		}
		if draw(30) == 0 && deed.Kind != impl.DdRenew {
			deed.A = []int64{d.Scheme.Holders, 11, 12, 999}[draw(4)]
		}
		list = append(list, deed)
	}
	return list
}

// brokenDeeds are not valid, each for a reason of its own.
func brokenDeeds() []impl.Deed {
	const least, most = math.MinInt64, math.MaxInt64
	list := []impl.Deed{{}, {Kind: -1}, {Kind: 10}, {Kind: least}, {Kind: most}, {Kind: 9, A: 1}, {Kind: 9, B: 1}, {Kind: 9, A: -1}}
	for _, wrong := range []int64{-1, 1000, least, most} {
		list = append(list, impl.Deed{Kind: 1, A: wrong}, impl.Deed{Kind: 6, A: wrong}, impl.Deed{Kind: 6, B: wrong}, impl.Deed{Kind: 8, A: wrong}, impl.Deed{Kind: 3, B: wrong})
	}
	return append(list, impl.Deed{Kind: 1, B: 1}, impl.Deed{Kind: 8, B: 999}, impl.Deed{Kind: 4, A: 1, B: 1})
}

// checkAfter compares all that the program tells of a ceremony after deeds with a world.
func checkAfter(t *testing.T, what string, list []impl.Deed, w world, codes []int64) {
	t.Helper()
	d, done, first := w.deal, len(codes), slices.IndexFunc(codes, func(code int64) bool { return code != 0 })
	for _, code := range codes {
		if code != 0 {
			done--
		}
	}
	what += fmt.Sprint(" after ", deedTexts(list))
	expect(t, "CeremonyAfter of "+what, show(impl.CeremonyAfter(d, list)), w.now, done, impl.OK)
	expect(t, "NamedAfter of "+what, show(impl.NamedAfter(d, list)), members(w.named()), impl.OK)
	secret, code := w.open()
	expect(t, "OpenAfter of "+what, show(impl.OpenAfter(d, list)), secret, code)
	if first < 0 {
		expect(t, "RefusedDeed of "+what, show(impl.RefusedDeed(d, list)), 0, 0, impl.ErrNotFound)
	} else {
		expect(t, "RefusedDeed of "+what, show(impl.RefusedDeed(d, list)), first, codes[first], impl.OK)
	}
}

// tell runs a script, each line of which stands before a colon, and its answer behind it.
func tell(t *testing.T, d impl.Deal, story ...string) {
	t.Helper()
	var lines, answers []string
	for _, part := range story {
		line, answer, found := strings.Cut(part, ": ")
		if !found {
			panic("no answer: " + part)
		}
		lines, answers = append(lines, line), append(answers, answer)
	}
	text, code := impl.RunScript(d, strings.Join(lines, "\n"))
	expect(t, "the code of "+strings.Join(lines, ", "), show(code), impl.OK)
	for i, answer := range strings.Split(strings.TrimSuffix(text, "\n"), "\n") {
		if i < len(answers) && answer != answers[i] {
			t.Errorf("%s: the answer to line %d, %s, is %s, and should be %s", strings.Join(lines, ", "), i, lines[i], answer, answers[i])
		}
	}
	if strings.Count(text, "\n") != len(answers) {
		t.Errorf("%s: %d answers", strings.Join(lines, ", "), strings.Count(text, "\n"))
	}
}

// all returns a story of several lines, divided by commas, which are all done.
func all(lines string) []string {
	var story []string
	for _, line := range strings.Split(lines, ", ") {
		story = append(story, line+": ok")
	}
	return story
}
