package tests

import (
	"math"
	"reflect"
	"testing"

	"loop.example/g01117/impl"
)

// chapter5 lists the functions of chapter 5 by their names.
func chapter5() map[string]any {
	return map[string]any{
		"ValidCurve": impl.ValidCurve, "CurveAt": impl.CurveAt, "AddCurves": impl.AddCurves, "ScaleCurve": impl.ScaleCurve, "DealShares": impl.DealShares,
		"ValidShares": impl.ValidShares, "WeightsFor": impl.WeightsFor, "OpenAt": impl.OpenAt, "CurveThrough": impl.CurveThrough, "LiesOn": impl.LiesOn,
		"CountSecrets": impl.CountSecrets, "FalseShares": impl.FalseShares, "NearCurves": impl.NearCurves, "RefreshShares": impl.RefreshShares,
		"MultiplyShares": impl.MultiplyShares, "EnrollParts": impl.EnrollParts, "JoinEnrolled": impl.JoinEnrolled, "ReshareTo": impl.ReshareTo,
		"PackSecrets": impl.PackSecrets, "UnpackSecrets": impl.UnpackSecrets,
	}
}

// trialShares are shares of some primes, and some of none.
func trialShares() [][]impl.Share {
	return [][]impl.Share{
		nil, {}, sharesAt([]int64{1}, []int64{0}), sharesAt([]int64{1}, []int64{1}), sharesAt([]int64{1, 2}, []int64{2, 0}), sharesAt([]int64{1, 2}, []int64{0, 2}),
		sharesAt([]int64{1, 2, 3}, []int64{6, 1, 3}), sharesAt([]int64{1, 2, 4, 6}, []int64{6, 5, 3, 0}), sharesAt(countTo(7)[1:], make([]int64, 6)), sharesAt([]int64{2, 6}, []int64{1, 1}),
		sharesAt([]int64{0}, []int64{0}), sharesAt([]int64{2, 1}, []int64{0, 0}), sharesAt([]int64{1, 1}, []int64{0, 0}), sharesAt([]int64{1, 2}, []int64{0, -1}), sharesAt([]int64{1}, []int64{7}),
		sharesAt([]int64{7}, []int64{0}), sharesAt([]int64{-1}, []int64{0}), sharesAt([]int64{math.MinInt64}, []int64{math.MaxInt64}), sharesAt([]int64{1, math.MaxInt64}, []int64{0, math.MinInt64}),
		sharesAt(countTo(12)[1:], make([]int64, 11)), sharesAt(repeat(int64(1), 300), make([]int64, 300)),
	}
}

// TestPromise1AllArgumentsOfCurves tries functions of four arguments with fewer of them, but with primes.
func TestPromise1AllArgumentsOfCurves(t *testing.T) {
	functions := chapter5()
	for _, name := range []string{"FalseShares", "NearCurves", "EnrollParts", "ReshareTo"} {
		function := reflect.ValueOf(functions[name])
		delete(functions, name)
		lists := [][]reflect.Value{{reflect.ValueOf(int64(4)), reflect.ValueOf(int64(2)), reflect.ValueOf(int64(7))}}
		for i := 1; i < function.Type().NumIn(); i++ {
			lists = append(lists, fewTrials(trialsOf(function.Type().In(i)), 9))
		}
		combine(lists, func(args []reflect.Value) { tryCall(t, name, function, args) })
	}
	tryAll(t, functions)
}

// TestPromise1CurvesThatFit gives arguments that fit together, so that they are not just refused.
func TestPromise1CurvesThatFit(t *testing.T) {
	try := trier(t, chapter5())
	for _, p := range allPrimes() {
		draw := drawer(uint64(p) + 1080)
		for count := range mostShares(p) + 1 {
			points, degree := somePoints(draw, p, count), draw(7)
			c := withoutZeros(someResidues(draw, p, degree+1))
			shares, others := sharesOn(p, c, points), sharesAt(points, someResidues(draw, p, count))
			curves, masks := [][]int64{}, [][]int64{}
			for _, s := range shares {
				curves, masks = append(curves, withoutZeros(append([]int64{s.Value}, someResidues(draw, p, draw(7))...))), append(masks, someResidues(draw, p, count-1))
			}
			for _, n := range []int64{0, p - 1, draw(p)} {
				try("CurveAt", p, c, n)
				try("ScaleCurve", p, c, n)
				try("WeightsFor", p, points, n)
				try("OpenAt", p, others, n)
				try("EnrollParts", p, shares, n, masks)
			}
			for n := int64(-1); n <= 7; n++ {
				try("LiesOn", p, others, n)
				try("CountSecrets", p, shares, n)
				try("UnpackSecrets", p, others, n)
				try("NearCurves", p, others, n, n+1)
				try("FalseShares", p, shares, n, n/2)
				try("FalseShares", p, others, n, max(count-n-1, 0)/2)
			}
			try("AddCurves", p, c, repeat(p-1, 7))
			try("DealShares", p, c, points)
			try("CurveThrough", p, others)
			try("RefreshShares", p, others, someMasks(draw, p, count, 6))
			try("MultiplyShares", p, shares, others)
			try("ReshareTo", p, shares, curves, points)
			try("JoinEnrolled", p, repeat(someResidues(draw, p, count), int(count)))
			try("PackSecrets", p, someResidues(draw, p, count/2), someResidues(draw, p, count-count/2))
		}
	}
}

// TestPromise1CurvesShareNothing gives the same memory for several arguments, and writes into all results.
func TestPromise1CurvesShareNothing(t *testing.T) {
	list, shares := []int64{1, 2}, sharesAt([]int64{1, 2}, []int64{1, 2})
	before := show(list, shares)
	sum, one := impl.AddCurves(7, list, list)
	dealt, two := impl.DealShares(7, list, list)
	product, three := impl.MultiplyShares(7, shares, shares)
	packed, four := impl.PackSecrets(7, list, list)
	near, five := impl.NearCurves(7, shares, 0, 1)
	parts, six := impl.EnrollParts(7, shares, 0, [][]int64{list[:1], list[:1]})
	next, seven := impl.ReshareTo(7, sharesAt(list, []int64{1, 1}), [][]int64{list, list}, list)
	fresh, eight := impl.RefreshShares(7, shares, [][]int64{{0, 1}, nil})
	twice, nine := impl.ScaleCurve(7, list, 1)
	c, bad, ten := impl.FalseShares(7, shares, 1, 0)
	expect(t, "codes", show(one, two, three, four, five, six, seven, eight, nine, ten), 0, 0, 0, 0, 0, 0, 0, 0, 0, 0)
	results := []any{sum, dealt, product, packed, near, parts, next, fresh, twice, c, bad}
	expect(t, "results", show(results...), []int64{2, 4}, sharesAt(list, []int64{3, 5}), sharesAt(list, []int64{1, 4}), []int64{3, 0, 5}, [][]int64{{1}, {2}}, [][]int64{{1, 1}, {1, 4}},
		sharesAt(list, []int64{3, 5}), sharesAt(list, []int64{2, 4}), list, []int64{0, 1}, []int64{})
	var given []span
	for _, v := range []any{list, shares} {
		given = append(given, spansOf(reflect.ValueOf(v))...)
	}
	for _, result := range results {
		if overlap(spansOf(reflect.ValueOf(result)), given) {
			t.Errorf("%v shares memory", result)
		}
		switch x := result.(type) {
		case []int64:
			_ = append(x, 9)
			clear(x)
		case []impl.Share:
			_ = append(x, impl.Share{})
			clear(x)
		case [][]int64:
			_ = append(x[0], 9)
			expect(t, "the next list", show(x[1][0] < 9), true)
			clear(x[0])
		}
	}
	expect(t, "the arguments", show(list, shares), list, shares)
	expect(t, "the arguments before", before, list, shares)
}

func TestPromise1NilIsEmptyInCurves(t *testing.T) {
	for name, f := range chapter5() {
		function := reflect.ValueOf(f)
		kind := function.Type()
		for _, p := range []int64{2, 4, 31} {
			for _, n := range []int64{-1, 0, 1, 7} {
				nils, empties := []reflect.Value{reflect.ValueOf(p)}, []reflect.Value{reflect.ValueOf(p)}
				for i := 1; i < kind.NumIn(); i++ {
					if kind.In(i).Kind() == reflect.Slice {
						nils, empties = append(nils, reflect.Zero(kind.In(i))), append(empties, reflect.MakeSlice(kind.In(i), 0, 0))
					} else {
						nils, empties = append(nils, reflect.ValueOf(n)), append(empties, reflect.ValueOf(n))
					}
				}
				a, b := function.Call(nils), function.Call(empties)
				for k := range a {
					expect(t, name, show(a[k].Interface()), b[k].Interface())
				}
			}
		}
	}
	expect(t, "an empty mask, and one that is nil", show(impl.EnrollParts(5, sharesAt([]int64{1}, []int64{2}), 0, [][]int64{{}})), [][]int64{{2}}, impl.OK)
	expect(t, "curves that are empty, and nil", show(impl.ReshareTo(5, sharesAt([]int64{1, 2}, []int64{0, 0}), [][]int64{{}, nil}, []int64{1})), sharesAt([]int64{1}, []int64{0}), impl.OK)
}

func TestPromise1HugeCurves(t *testing.T) {
	const many = 1_000_000
	good := sharesAt([]int64{1, 2}, []int64{1, 2})
	for _, list := range [][]int64{repeat(int64(1), many), make([]int64, many), countTo(many)[1:], repeat(int64(math.MaxInt64), many)} {
		shares := sharesAt(list[:many/2], list[:many/2])
		_, one := impl.CurveAt(31, list, 0)
		_, two := impl.AddCurves(31, nil, list)
		_, three := impl.DealShares(31, list, list)
		_, four := impl.OpenAt(31, shares, 0)
		_, five := impl.CountSecrets(31, shares, 6)
		_, _, six := impl.FalseShares(31, shares, 0, 0)
		_, seven := impl.NearCurves(31, shares, 0, 1)
		_, eight := impl.MultiplyShares(31, shares, shares)
		_, nine := impl.ReshareTo(31, shares, [][]int64{list}, list)
		_, ten := impl.RefreshShares(31, good, [][]int64{list})
		expect(t, "codes", show(impl.ValidCurve(31, list), impl.ValidShares(31, shares), one, two, three, four, five, six, seven, eight, nine, ten), false, false, 1, 1, 1, 1, 1, 1, 1, 1, 1, 1)
		_, one = impl.DealShares(31, nil, list)
		_, two = impl.WeightsFor(31, list, 0)
		_, three = impl.PackSecrets(31, list, list)
		_, four = impl.JoinEnrolled(31, [][]int64{list})
		_, five = impl.EnrollParts(31, good, 0, [][]int64{list, nil})
		_, six = impl.ReshareTo(31, good, [][]int64{{1}, {2}}, list)
		expect(t, "codes", show(one, two, three, four, five, six), 2, 2, 2, 2, 2, 2)
	}
	empty := make([][]int64, many)
	expect(t, "many masks that are 0", show(impl.RefreshShares(31, good, empty)), good, impl.OK)
	expect(t, "many masks", show(impl.RefreshShares(31, good, repeat([]int64{0, 1}, many/3))), sharesAt([]int64{1, 2}, []int64{1 + many/3%31, (2 + many/3*2) % 31}), impl.OK)
	expect(t, "many lists", show(impl.JoinEnrolled(31, empty)), 0, impl.ErrRange)
	expect(t, "many lists", show(impl.EnrollParts(31, good, 0, empty)), [][]int64{}, impl.ErrRange)
	expect(t, "many curves", show(impl.ReshareTo(31, good, empty, nil)), []impl.Share{}, impl.ErrRange)
}
