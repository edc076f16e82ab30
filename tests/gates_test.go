package tests

import (
	"math"
	"regexp"
	"strconv"
	"strings"

	"loop.example/g01117/impl"
)

// The functions of this file say of gates, from the words of the document, what the program is to return.

func leafOf(h int64) impl.Gate { return impl.Gate{Holder: h} }

func gateOf(least int64, kids ...impl.Gate) impl.Gate {
	return impl.Gate{Holder: -1, Least: least, Kids: kids}
}

func sizeOf(g impl.Gate) int {
	size := 1
	for _, kid := range g.Kids {
		size += sizeOf(kid)
	}
	return size
}

func deepness(g impl.Gate) int {
	below := 0
	for _, kid := range g.Kids {
		below = max(below, deepness(kid))
	}
	return 1 + below
}

func hasGateForm(holders int64, g impl.Gate) bool {
	if g.Holder >= 0 && g.Holder < holders && g.Least == 0 && len(g.Kids) == 0 {
		return true
	}
	for _, kid := range g.Kids {
		if !hasGateForm(holders, kid) {
			return false
		}
	}
	return g.Holder == -1 && len(g.Kids) >= 1 && g.Least >= 1 && g.Least <= int64(len(g.Kids))
}

func isGate(holders int64, g impl.Gate) bool {
	return holders >= 1 && holders <= 7 && hasGateForm(holders, g) && sizeOf(g) <= 60 && deepness(g) <= 12
}

func isOpen(g impl.Gate, mask int) bool {
	if len(g.Kids) == 0 {
		return mask>>g.Holder&1 == 1
	}
	open := int64(0)
	for _, kid := range g.Kids {
		if isOpen(kid, mask) {
			open++
		}
	}
	return open >= g.Least
}

func ruleOfGate(holders int64, g impl.Gate) rule {
	return newRule(int(holders), func(mask int) bool { return isOpen(g, mask) })
}

func textOf(g impl.Gate) string {
	if len(g.Kids) == 0 {
		return "ABCDEFG"[g.Holder : g.Holder+1]
	}
	text := ""
	for _, kid := range g.Kids {
		text += ", " + textOf(kid)
	}
	return strconv.Itoa(int(g.Least)) + "(" + text[2:] + ")"
}

var numberAndKids = regexp.MustCompile(`^(0|[1-9][0-9]*)\((.*)\)$`)

// gateWithText returns the gate of a text of the right form, which need not be valid.
func gateWithText(text string) (impl.Gate, bool) {
	if len(text) == 1 && text[0] >= 'A' && text[0] <= 'Z' {
		return leafOf(int64(text[0] - 'A')), true
	}
	parts := numberAndKids.FindStringSubmatch(text)
	if parts == nil {
		return impl.Gate{}, false
	}
	least, err := strconv.ParseInt(parts[1], 10, 64)
	if err != nil {
		return impl.Gate{}, false
	}
	g := gateOf(least)
	for _, part := range splitKids(parts[2]) {
		kid, ok := gateWithText(part)
		if !ok {
			return impl.Gate{}, false
		}
		g.Kids = append(g.Kids, kid)
	}
	return g, true
}

// splitKids cuts a text at each comma and blank that are in no parentheses.
func splitKids(text string) []string {
	parts, from, within := []string{}, 0, 0
	for i := range len(text) {
		switch {
		case text[i] == '(':
			within++
		case text[i] == ')':
			within--
		case within == 0 && strings.HasPrefix(text[i:], ", "):
			parts, from = append(parts, text[from:i]), i+2
		}
	}
	return append(parts, text[min(from, len(text)):])
}

// gate returns the gate with a text that is known to be one.
func gate(text string) impl.Gate {
	g, ok := gateWithText(text)
	if !ok {
		panic("no gate: " + text)
	}
	return g
}

// allGates returns all gates of so many holders with a size.
func allGates(holders int64, size int) []impl.Gate {
	var gates []impl.Gate
	if size == 1 {
		for h := range holders {
			gates = append(gates, leafOf(h))
		}
		return gates
	}
	for _, kids := range allKids(holders, size-1) {
		for least := range int64(len(kids)) {
			gates = append(gates, gateOf(least+1, kids...))
		}
	}
	return gates
}

// allKids returns all lists of gates with a size together.
func allKids(holders int64, size int) [][]impl.Gate {
	if size == 0 {
		return [][]impl.Gate{{}}
	}
	var lists [][]impl.Gate
	for first := 1; first <= size; first++ {
		for _, g := range allGates(holders, first) {
			for _, rest := range allKids(holders, size-first) {
				lists = append(lists, append([]impl.Gate{g}, rest...))
			}
		}
	}
	return lists
}

// someGates returns arbitrary valid gates of so many holders, some of them large.
func someGates(holders int64, count int) []impl.Gate {
	state := uint64(holders)
	draw := func(below int) int {
		state = state*6364136223846793005 + 1442695040888963407
		return int(state>>33) % below
	}
	var grow func(size int) impl.Gate
	grow = func(size int) impl.Gate {
		if size == 1 {
			return leafOf(int64(draw(int(holders))))
		}
		g := gateOf(0)
		for left := size - 1; left > 0; {
			part := 1 + draw(left)
			g.Kids, left = append(g.Kids, grow(part)), left-part
		}
		switch draw(3) {
		case 0:
			g.Least = 1
		case 1:
			g.Least = int64(len(g.Kids))
		default:
			g.Least = int64(1 + draw(len(g.Kids)))
		}
		return g
	}
	var gates []impl.Gate
	for len(gates) < count {
		if g := grow(1 + draw(60)); deepness(g) <= 12 {
			gates = append(gates, g)
		}
	}
	return gates
}

// everyGate runs a check for all small gates of up to 3 holders, and for some gates of 1 to 7.
func everyGate(check func(holders int64, g impl.Gate)) {
	greatest := []int{0, 7, 6, 5}
	for holders := int64(1); holders <= 7; holders++ {
		gates := someGates(holders, 100)
		for size := 1; holders < 4 && size <= greatest[holders]; size++ {
			gates = append(gates, allGates(holders, size)...)
		}
		for _, g := range gates {
			check(holders, g)
		}
	}
}

// chain returns a gate of a depth, with the size of the depth.
func chain(depth int) impl.Gate {
	g := leafOf(0)
	for range depth - 1 {
		g = gateOf(1, g)
	}
	return g
}

// wide returns a gate of a size of at least 2 with leaves as kids.
func wide(size int) impl.Gate {
	return gateOf(1, repeat(leafOf(0), size-1)...)
}

// brokenGates are not valid for 3 holders, each for a reason of its own.
func brokenGates() []impl.Gate {
	a := leafOf(0)
	return []impl.Gate{
		leafOf(3), leafOf(7), leafOf(-1), leafOf(-2), leafOf(math.MinInt64), leafOf(math.MaxInt64),
		{Holder: 0, Least: 1}, {Holder: 0, Least: -1}, {Holder: -1, Least: 1}, {Holder: 2, Least: math.MaxInt64},
		gateOf(0, a), gateOf(2, a), gateOf(-1, a), gateOf(4, a, a, a), gateOf(math.MaxInt64, a), gateOf(math.MinInt64, a),
		{Holder: 0, Least: 1, Kids: []impl.Gate{a}}, {Holder: -2, Least: 1, Kids: []impl.Gate{a}}, {Holder: 0, Kids: []impl.Gate{a}},
		gateOf(1, a, leafOf(3)), gateOf(1, leafOf(-1), a), gateOf(1, a, gateOf(2, a)), gateOf(1, gateOf(1, gateOf(0, a)), a),
		chain(13), gateOf(1, a, chain(12)), wide(61), gateOf(1, wide(30), wide(30)),
	}
}

// limitGates are valid for all numbers of holders, just within a limit.
func limitGates() []impl.Gate {
	return []impl.Gate{chain(12), gateOf(2, leafOf(0), chain(11)), wide(60), gateOf(1, wide(30), wide(29))}
}
