package tests

import (
	"fmt"
	"math"
	"reflect"
	"slices"
	"strings"
	"testing"

	"loop.example/g01117/impl"
)

// chapter1 lists the functions of chapter 1 by their names.
func chapter1() map[string]any {
	return map[string]any{
		"CodeName": impl.CodeName, "ValidFamily": impl.ValidFamily, "SameFamily": impl.SameFamily,
		"FamilyText": impl.FamilyText, "ReadFamily": impl.ReadFamily, "GroupText": impl.GroupText,
		"FamilyOf": impl.FamilyOf, "MayOpen": impl.MayOpen, "OpeningGroups": impl.OpeningGroups,
		"GreatestBlocked": impl.GreatestBlocked, "DualFamily": impl.DualFamily, "EitherFamily": impl.EitherFamily,
		"BothFamilies": impl.BothFamilies, "WithoutHolder": impl.WithoutHolder, "TrustHolder": impl.TrustHolder,
		"RenameHolders": impl.RenameHolders, "PutFamily": impl.PutFamily, "ThresholdFamily": impl.ThresholdFamily,
		"WeightedFamily": impl.WeightedFamily, "NeededHolders": impl.NeededHolders, "VetoHolders": impl.VetoHolders,
		"AlikeHolders": impl.AlikeHolders, "CountBySize": impl.CountBySize, "SwingsOf": impl.SwingsOf,
	}
}

// trialsOf returns arguments of each type with which the functions are tried.
func trialsOf(kind reflect.Type) []reflect.Value {
	var list []reflect.Value
	add := func(values ...any) {
		for _, v := range values {
			list = append(list, reflect.ValueOf(v))
		}
	}
	switch reflect.Zero(kind).Interface().(type) {
	case int64:
		add(int64(math.MinInt64), int64(-1), int64(0), int64(1), int64(2), int64(3), int64(6), int64(7), int64(8),
			int64(9), int64(1000), int64(7001), int64(7002), int64(1)<<32, int64(math.MaxInt64))
	case string:
		for _, text := range trialTexts() {
			add(text)
		}
	case []int64:
		add([]int64(nil), []int64{}, []int64{0}, []int64{0, 1}, []int64{1, 0}, []int64{0, 0}, []int64{0, 2},
			[]int64{0, 1, 2}, []int64{1, 2, 0}, []int64{2, 1, 1}, []int64{3}, []int64{6}, []int64{7}, []int64{-1},
			[]int64{64}, []int64{math.MinInt64}, []int64{math.MaxInt64}, []int64{0, math.MaxInt64}, []int64{1000}, []int64{1001},
			countTo(7), countTo(8), repeat(int64(1000), 7), repeat(int64(0), 300))
	case [][]int64:
		add([][]int64(nil), [][]int64{}, [][]int64{nil}, [][]int64{{}}, [][]int64{{0}, {0, 1}}, [][]int64{{1, 2}, {0}, {0}},
			[][]int64{{6}}, [][]int64{{7}}, [][]int64{{-1}}, [][]int64{{1, 0}}, repeat([]int64{0}, 200), repeat([]int64{0}, 201))
	case impl.Family:
		for _, f := range trialFamilies() {
			add(f)
		}
	case impl.Gate:
		for _, g := range trialGates() {
			add(g)
		}
	case impl.Matrix:
		for _, m := range trialMatrices() {
			add(m)
		}
	case impl.Scheme:
		for _, s := range trialSchemes() {
			add(s)
		}
	case []impl.Share:
		for _, shares := range trialShares() {
			add(shares)
		}
	case impl.Table:
		for _, x := range trialTables() {
			add(x)
		}
	case []impl.Row:
		for _, x := range trialTables() {
			add(x.Rows)
		}
	case impl.Ranks:
		for _, r := range trialRanks() {
			add(r)
		}
	case []impl.Term:
		for _, terms := range trialTerms() {
			add(terms)
		}
	case impl.Sequence:
		for _, q := range trialSequences() {
			add(q)
		}
	case impl.Deal:
		for _, d := range trialDeals() {
			add(d)
		}
	case impl.Deed:
		for _, d := range slices.Concat(brokenDeeds(), trialDeeds()[3]) {
			add(d)
		}
	case []impl.Deed:
		for _, list := range trialDeeds() {
			add(list)
		}
	}
	return list
}

func trialTexts() []string {
	texts := []string{"", "\n", "family", "family ", "family 3", "family 3\n", "family 3\n-\n", "family 3\nAB\nAC\n", "\x00", "\xff\xfe",
		"family 3\n\xff\n", "family 9223372036854775808\n", "family -1\n", strings.Repeat("A", impl.MaxText), strings.Repeat("\n", impl.MaxText+1)}
	for b := range 256 {
		texts = append(texts, string([]byte{byte(b)}))
	}
	return texts
}

func trialFamilies() []impl.Family {
	return append(brokenFamilies(), nobody(1), nobody(3), nobody(7), everybody(1), everybody(3), everybody(7),
		family(1, []int64{0}), family(3, []int64{0, 1}, []int64{0, 2}), family(3, []int64{0}, []int64{1, 2}),
		family(5, []int64{0, 4}, []int64{1, 2, 3}), family(7, countTo(7)), family(7, []int64{0, 1}, []int64{2}, []int64{6}))
}

// roomyCopy copies a value; each of its slices gets unused capacity with marks in it.
func roomyCopy(v reflect.Value) reflect.Value {
	result := reflect.New(v.Type()).Elem()
	switch v.Kind() {
	case reflect.Struct:
		for i := range v.NumField() {
			result.Field(i).Set(roomyCopy(v.Field(i)))
		}
	case reflect.Slice:
		if v.IsNil() {
			return result
		}
		room := reflect.MakeSlice(v.Type(), v.Len()+2, v.Len()+2)
		for i := range v.Len() {
			room.Index(i).Set(roomyCopy(v.Index(i)))
		}
		for i := v.Len(); i < room.Len(); i++ {
			room.Index(i).Set(markOf(v.Type().Elem()))
		}
		result.Set(room.Slice(0, v.Len()))
	default:
		result.Set(v)
	}
	return result
}

// markOf returns a value of a type that no argument has, and which holds no slices of structs.
func markOf(kind reflect.Type) reflect.Value {
	mark := reflect.New(kind).Elem()
	switch kind.Kind() {
	case reflect.Int64:
		mark.SetInt(-77)
	case reflect.Slice:
		if kind.Elem().Kind() == reflect.Int64 {
			mark.Set(reflect.ValueOf([]int64{-77}))
		}
	case reflect.Struct:
		for i := range kind.NumField() {
			mark.Field(i).Set(markOf(kind.Field(i).Type))
		}
	}
	return mark
}

// wholeText writes a value with the unused capacity of its slices.
func wholeText(v reflect.Value) string {
	switch v.Kind() {
	case reflect.Struct:
		text := "{"
		for i := range v.NumField() {
			text += wholeText(v.Field(i)) + " "
		}
		return text + "}"
	case reflect.Slice:
		text := fmt.Sprint(v.IsNil(), v.Len(), "[")
		for i, whole := 0, v.Slice(0, v.Cap()); i < whole.Len(); i++ {
			text += wholeText(whole.Index(i)) + " "
		}
		return text + "]"
	}
	return fmt.Sprintf("%q", fmt.Sprint(v.Interface()))
}

// A span is the memory of a slice with its capacity.
type span struct{ from, to uintptr }

func spansOf(v reflect.Value) []span {
	var spans []span
	switch v.Kind() {
	case reflect.Struct:
		for i := range v.NumField() {
			spans = append(spans, spansOf(v.Field(i))...)
		}
	case reflect.Slice:
		if v.Cap() > 0 {
			from := v.Pointer()
			spans = append(spans, span{from, from + uintptr(v.Cap())*v.Type().Elem().Size()})
		}
		for i := range v.Len() {
			spans = append(spans, spansOf(v.Index(i))...)
		}
	}
	return spans
}

// overlap reports whether a span of results shares memory with another one or with one of args.
func overlap(results, args []span) bool {
	for i, a := range results {
		for _, b := range slices.Concat(results[i+1:], args) {
			if a.from < b.to && b.from < a.to {
				return true
			}
		}
	}
	return false
}

func isEmptyValue(v reflect.Value) bool {
	if v.Kind() == reflect.Struct {
		for i := range v.NumField() {
			if !isEmptyValue(v.Field(i)) {
				return false
			}
		}
		return true
	}
	return v.Kind() == reflect.Slice && v.Len() == 0 || v.IsZero()
}

// tryCall checks promise 1 for one call, whose arguments are copied before.
func tryCall(t *testing.T, name string, function reflect.Value, given []reflect.Value) {
	t.Helper()
	var args, again []reflect.Value
	var argSpans []span
	before := ""
	for _, v := range given {
		args, again = append(args, roomyCopy(v)), append(again, roomyCopy(v))
		argSpans = append(argSpans, spansOf(args[len(args)-1])...)
		before += wholeText(args[len(args)-1])
	}
	results, second := function.Call(args), function.Call(again)
	after := ""
	for _, v := range args {
		after += wholeText(v)
	}
	if before != after {
		t.Errorf("%s changed its arguments %s to %s", name, before, after)
	}
	var spans []span
	for i, v := range results {
		spans = append(spans, spansOf(v)...)
		if show(v.Interface()) != show(second[i].Interface()) {
			t.Errorf("%s of %s: first %v and then %v", name, before, v, second[i])
		}
	}
	if overlap(spans, argSpans) {
		t.Errorf("%s of %s: a result shares memory", name, before)
	}
	checkCode(t, name+" of "+before, results)
}

// trier returns tryCall for functions by their names, with arguments of any types.
func trier(t *testing.T, functions map[string]any) func(name string, args ...any) {
	return func(name string, args ...any) {
		t.Helper()
		var values []reflect.Value
		for _, arg := range args {
			values = append(values, reflect.ValueOf(arg))
		}
		tryCall(t, name, reflect.ValueOf(functions[name]), values)
	}
}

// checkCode checks that nothing is returned together with an error.
func checkCode(t *testing.T, what string, results []reflect.Value) {
	t.Helper()
	last := len(results) - 1
	if last < 1 || results[last].Int() == impl.OK {
		return
	}
	for _, v := range results[:last] {
		if !isEmptyValue(v) {
			t.Errorf("%s: %v with the code %v", what, v, results[last])
		}
	}
}

// combine runs a trial for each choice of one value from each list.
func combine(lists [][]reflect.Value, trial func([]reflect.Value)) {
	chosen := make([]reflect.Value, len(lists))
	var choose func(at int)
	choose = func(at int) {
		if at == len(lists) {
			trial(chosen)
			return
		}
		for _, v := range lists[at] {
			chosen[at] = v
			choose(at + 1)
		}
	}
	choose(0)
}

// tryAll calls functions with all choices of the trials for their arguments; those named in few, with fewer trials.
func tryAll(t *testing.T, functions map[string]any, few ...string) {
	for name, f := range functions {
		function := reflect.ValueOf(f)
		var lists [][]reflect.Value
		for i := range function.Type().NumIn() {
			trials := trialsOf(function.Type().In(i))
			if slices.Contains(few, name) {
				trials = fewTrials(trials, 14)
			}
			lists = append(lists, trials)
		}
		combine(lists, func(args []reflect.Value) { tryCall(t, name, function, args) })
	}
}

// fewTrials returns about so many of a list of trials, as all choices from four whole lists would be too many.
func fewTrials(list []reflect.Value, few int) []reflect.Value {
	step := 1 + len(list)/few
	var result []reflect.Value
	for i := len(list) - 1; i >= 0; i -= step {
		result = append(result, list[i])
	}
	return result
}

func TestPromise1AllArguments(t *testing.T) {
	tryAll(t, chapter1())
}

// TestPromise1SharedArguments gives the same memory twice: as both families, or as all groups.
func TestPromise1SharedArguments(t *testing.T) {
	group := []int64{0, 2}
	f := family(3, group, []int64{1, 2})
	before := impl.FamilyText(f)
	either, _ := impl.EitherFamily(f, f)
	both, _ := impl.BothFamilies(f, f)
	put, _ := impl.PutFamily(f, 0, f)
	of, _ := impl.FamilyOf(3, [][]int64{group, group, f.Groups[1]})
	may, code := impl.MayOpen(f, group)
	expect(t, "results", show(either, both, put, of, may, code), f, f, family(5, []int64{0, 1}, []int64{1, 2, 4}, []int64{1, 3, 4}), f, true, impl.OK)
	for _, result := range []impl.Family{either, both, put, of} {
		if overlap(spansOf(reflect.ValueOf(result)), spansOf(reflect.ValueOf(f))) {
			t.Errorf("%v shares memory with its argument", result)
		}
		for _, g := range result.Groups {
			_ = append(g, 9)
			clear(g)
		}
	}
	if impl.FamilyText(f) != before {
		t.Errorf("writing into results changed the argument to %v", f)
	}
}

// TestPromise1NilIsEmpty gives nil and empty slices, which are to count as the same.
func TestPromise1NilIsEmpty(t *testing.T) {
	nils := []impl.Family{nobody(3), family(3, nil)}
	empties := []impl.Family{{Holders: 3, Groups: [][]int64{}}, everybody(3)}
	for i := range nils {
		if !impl.SameFamily(nils[i], empties[i]) {
			t.Errorf("%v: nil and empty groups differ", nils[i])
		}
		for name, f := range chapter1() {
			function := reflect.ValueOf(f)
			if function.Type().NumIn() != 1 || function.Type().In(0) != reflect.TypeFor[impl.Family]() {
				continue
			}
			a, b := function.Call([]reflect.Value{reflect.ValueOf(nils[i])}), function.Call([]reflect.Value{reflect.ValueOf(empties[i])})
			for k := range a {
				expect(t, name, show(a[k].Interface()), b[k].Interface())
			}
		}
	}
	expect(t, "GroupText", show(impl.GroupText(nil), impl.GroupText([]int64{})), "-", "-")
}

func TestPromise1HugeArguments(t *testing.T) {
	const many = 1_000_000
	wide := []impl.Family{
		family(7, repeat([]int64{}, many)...), family(7, repeat([]int64{0}, many)...),
		family(7, countTo(many)), family(7, repeat(int64(3), many)), nobody(many),
	}
	for _, f := range wide {
		if impl.ValidFamily(f) || impl.FamilyText(f) != "" || !impl.SameFamily(f, f) {
			t.Errorf("a family with %d groups is treated as valid, or is not itself", len(f.Groups))
		}
		_, code := impl.DualFamily(f)
		expect(t, "DualFamily", show(code), impl.ErrInvalid)
	}
	list, good := countTo(many), everybody(7)
	_, one := impl.MayOpen(good, list)
	_, two := impl.RenameHolders(good, list)
	_, three := impl.WeightedFamily(list, 1)
	_, four := impl.FamilyOf(7, wide[0].Groups)
	_, five := impl.FamilyOf(7, [][]int64{list})
	_, six := impl.ReadFamily(strings.Repeat("A\n", many/2))
	expect(t, "codes", show(impl.GroupText(list), one, two, three, four, five, six), "", 2, 2, 2, 2, 2, 2)
}
