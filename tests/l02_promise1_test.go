package tests

import (
	"reflect"
	"slices"
	"strings"
	"testing"

	"loop.example/g01117/impl"
)

// chapter2 lists the functions of chapter 2 by their names.
func chapter2() map[string]any {
	return map[string]any{
		"ValidGate": impl.ValidGate, "SameGate": impl.SameGate, "GateText": impl.GateText, "ReadGate": impl.ReadGate,
		"GateSize": impl.GateSize, "GateOpens": impl.GateOpens, "FamilyOfGate": impl.FamilyOfGate,
		"GateOfFamily": impl.GateOfFamily, "DualGate": impl.DualGate, "TidyGate": impl.TidyGate, "PutGate": impl.PutGate,
		"LeavesOf": impl.LeavesOf, "LevelGate": impl.LevelGate, "FindWeights": impl.FindWeights, "IsModule": impl.IsModule,
		"ModulesOf": impl.ModulesOf, "ModuleFamily": impl.ModuleFamily, "OuterFamily": impl.OuterFamily,
	}
}

func trialGates() []impl.Gate {
	gates := slices.Concat(brokenGates(), limitGates(), []impl.Gate{leafOf(0), leafOf(2), leafOf(6)})
	for _, text := range []string{"1(A)", "1(1(C))", "2(A, B, 1(C, A))", "2(2(A, B), 1(B, 1(C)))", "1(G)", "3(A, B, C)"} {
		gates = append(gates, gate(text))
	}
	return gates
}

func TestPromise1AllArgumentsOfGates(t *testing.T) {
	tryAll(t, chapter2(), "PutGate")
	for text := range strings.SplitSeq("A;C;1(A, B);2(A, B, 1(C, A));1(1(A;0(A);9(A);1(A))", ";") {
		for holders := range int64(9) {
			tryCall(t, "ReadGate", reflect.ValueOf(impl.ReadGate), []reflect.Value{reflect.ValueOf(holders), reflect.ValueOf(text)})
		}
	}
}

// TestPromise1GatesShareNothing gives gates whose parts are the same memory in several places.
func TestPromise1GatesShareNothing(t *testing.T) {
	kids := []impl.Gate{leafOf(0), leafOf(1)}
	all := gateOf(2, kids...)
	all.Kids = kids
	g := impl.Gate{Holder: -1, Least: 2, Kids: []impl.Gate{all, all, {Holder: -1, Least: 1, Kids: kids}, leafOf(2)}}
	text := textOf(g)
	put, one := impl.PutGate(3, g, 0, g)
	again, two := impl.PutGate(3, g, 2, all)
	dual, three := impl.DualGate(3, g)
	tidy, four := impl.TidyGate(3, g)
	same, five := impl.TidyGate(3, all)
	expect(t, "codes", show(one, two, three, four, five), 0, 0, 0, 0, 0)
	expect(t, "the same three times", show(textOf(put)), strings.ReplaceAll(text, "A", text))
	for _, result := range []impl.Gate{put, again, dual, tidy, same} {
		spans := spansOf(reflect.ValueOf(result))
		if overlap(spans, spansOf(reflect.ValueOf(g))) {
			t.Errorf("%s shares memory with its argument or itself", textOf(result))
		}
		spoil(result)
	}
	expect(t, "the argument", show(textOf(g)), text)
}

// spoil writes into all memory of a gate.
func spoil(g impl.Gate) {
	for i := range g.Kids {
		spoil(g.Kids[i])
	}
	_ = append(g.Kids, leafOf(9))
	clear(g.Kids)
}

func TestPromise1NilIsEmptyInGates(t *testing.T) {
	for _, g := range trialGates() {
		empty := copyOf(g)
		expect(t, "SameGate", show(impl.SameGate(g, empty), impl.SameGate(empty, g)), true, true)
		for name, f := range chapter2() {
			function := reflect.ValueOf(f)
			kind := function.Type()
			if kind.NumIn() != 2 || kind.In(0).Kind() != reflect.Int64 || kind.In(1) != reflect.TypeFor[impl.Gate]() {
				continue
			}
			for holders := range int64(9) {
				first := function.Call([]reflect.Value{reflect.ValueOf(holders), reflect.ValueOf(g)})
				second := function.Call([]reflect.Value{reflect.ValueOf(holders), reflect.ValueOf(empty)})
				for k := range first {
					expect(t, name+" of "+show(g), show(first[k].Interface()), second[k].Interface())
				}
			}
		}
	}
	expect(t, "GateOpens", show(impl.GateOpens(3, leafOf(0), []int64{})), false, impl.OK)
	expect(t, "GateOpens", show(impl.GateOpens(3, leafOf(0), nil)), false, impl.OK)
}

// deepGate returns a gate of a depth with a leaf of the holder h.
func deepGate(depth int, h int64) impl.Gate {
	g := leafOf(h)
	for range depth - 1 {
		g = gateOf(1, g)
	}
	return g
}

func TestPromise1HugeGates(t *testing.T) {
	const many = 1_000_000
	hundred := gateOf(1, repeat(leafOf(0), 99)...)
	tree := gateOf(1, repeat(gateOf(50, repeat(hundred, 99)...), 100)...)
	sizes := []int64{10_000, many, 990_101, 10_001, many}
	for i, pair := range [][2]impl.Gate{
		{deepGate(10_000, 0), deepGate(10_000, 1)},
		{wide(many), gateOf(1, append(repeat(leafOf(0), many-2), leafOf(1))...)},
		{tree, gateOf(1, append(slices.Clone(tree.Kids[1:]), leafOf(1))...)},
		{gateOf(1, deepGate(9_999, 0), leafOf(0)), gateOf(2, deepGate(9_999, 0), leafOf(0))},
		{gateOf(many, repeat(leafOf(7), many-1)...), gateOf(many-1, repeat(leafOf(0), many-1)...)},
	} {
		g, other := pair[0], pair[1]
		expect(t, "GateSize", show(impl.GateSize(g)), sizes[i])
		expect(t, "SameGate", show(impl.SameGate(g, g), impl.SameGate(g, other), impl.SameGate(other, g)), true, false, false)
		_, one := impl.GateOpens(7, g, nil)
		_, two := impl.FamilyOfGate(7, g)
		_, three := impl.DualGate(7, g)
		_, four := impl.TidyGate(7, g)
		_, five := impl.PutGate(7, g, 0, leafOf(0))
		_, six := impl.PutGate(7, leafOf(0), 0, g)
		_, seven := impl.LeavesOf(7, g)
		expect(t, "codes", show(impl.ValidGate(7, g), impl.GateText(7, g), one, two, three, four, five, six, seven), false, "", 1, 1, 1, 1, 1, 1, 1)
	}
}

func TestPromise1HugeListsForGates(t *testing.T) {
	const many = 1_000_000
	list, good := countTo(many), everybody(7)
	_, one := impl.GateOpens(7, leafOf(0), list)
	_, two := impl.IsModule(good, list)
	_, three := impl.ModuleFamily(good, list)
	_, four := impl.OuterFamily(good, list)
	_, five := impl.LevelGate(repeat(int64(1), many/2), repeat(int64(1), many/2))
	_, six := impl.ReadGate(7, strings.Repeat("1(", many/2))
	_, seven := impl.LevelGate([]int64{1}, list)
	expect(t, "codes", show(one, two, three, four, five, six, seven), 2, 2, 2, 2, 2, 2, 2)
	for _, f := range []impl.Family{family(7, repeat([]int64{0}, many)...), family(7, list), nobody(many)} {
		_, one := impl.GateOfFamily(f)
		_, _, two := impl.FindWeights(f)
		_, three := impl.IsModule(f, list)
		_, four := impl.ModulesOf(f)
		_, five := impl.ModuleFamily(f, list)
		_, six := impl.OuterFamily(f, list)
		expect(t, "codes", show(one, two, three, four, five, six), 1, 1, 1, 1, 1, 1)
	}
}
