package tests

import (
	"math"
	"reflect"
	"slices"
	"strings"
	"testing"

	"loop.example/g01117/impl"
)

// chapter3 lists the functions of chapter 3 by their names.
func chapter3() map[string]any {
	return map[string]any{
		"IsPrime": impl.IsPrime, "AddMod": impl.AddMod, "MulMod": impl.MulMod, "PowerMod": impl.PowerMod, "InverseMod": impl.InverseMod,
		"ValidMatrix": impl.ValidMatrix, "SameMatrix": impl.SameMatrix, "MatrixText": impl.MatrixText, "ReadMatrix": impl.ReadMatrix,
		"TransposeOf": impl.TransposeOf, "ProductOf": impl.ProductOf, "StackRows": impl.StackRows, "RowsAt": impl.RowsAt,
		"EchelonOf": impl.EchelonOf, "RankOf": impl.RankOf, "KernelOf": impl.KernelOf, "InverseOf": impl.InverseOf,
		"DeterminantOf": impl.DeterminantOf, "IsSpanned": impl.IsSpanned, "Combination": impl.Combination, "SolveFor": impl.SolveFor,
		"PowersOf": impl.PowersOf,
	}
}

func trialMatrices() []impl.Matrix {
	draw := drawer(1)
	return append(brokenMatrices(), matrixOf(2, 0), matrixOf(3, 2), matrixOf(5, 0, nil, []int64{}), matrixOf(7, 1, []int64{0}), matrixOf(7, 1, []int64{1}, []int64{2}),
		identity(2, 2), identity(7, 3), matrixOf(2, 2, []int64{1, 1}, []int64{1, 1}), matrixOf(3, 3, []int64{0, 1, 2}, []int64{1, 0, 1}, []int64{1, 1, 0}),
		matrixOf(3, 2, []int64{0, 1}, []int64{2, 0}, []int64{1, 1}), matrixOf(2, 12), matrixOf(2, 0, repeat([]int64{}, 20)...), matrixOf(7, 7, countTo(7), countTo(7)),
		someMatrix(draw, 2, 20, 12), someMatrix(draw, 31, 20, 12), someMatrix(draw, 31, 12, 12), goodSquare(draw, 31, 12))
}

func TestPromise1AllArgumentsOfFields(t *testing.T) {
	tryAll(t, chapter3())
	for _, text := range []string{"matrix 2 0\n", "matrix 5 2\nrow 1 2\nrow 0 4\n", "matrix 5 2\nrow 1 2\nrow 0 5\n", "matrix 2 0\nrow\nrow\n", "matrix 5\n", "matrix 31 12", "matrix 9223372036854775808 1\n"} {
		tryCall(t, "ReadMatrix", reflect.ValueOf(impl.ReadMatrix), []reflect.Value{reflect.ValueOf(text)})
	}
}

// TestPromise1ListsForMatrices gives lists that fit the matrices, so that they are not just refused.
func TestPromise1ListsForMatrices(t *testing.T) {
	draw := drawer(2)
	for _, m := range trialMatrices() {
		if !isMatrix(m) {
			continue
		}
		given := reflect.ValueOf(m)
		for _, target := range trialTargets(draw, m.Prime, int(m.Cols), m.Rows) {
			tryCall(t, "IsSpanned", reflect.ValueOf(impl.IsSpanned), []reflect.Value{given, reflect.ValueOf(target)})
			tryCall(t, "Combination", reflect.ValueOf(impl.Combination), []reflect.Value{given, reflect.ValueOf(target)})
		}
		for _, values := range trialTargets(draw, m.Prime, len(m.Rows), columns(m)) {
			tryCall(t, "SolveFor", reflect.ValueOf(impl.SolveFor), []reflect.Value{given, reflect.ValueOf(values)})
		}
		if rows := int64(len(m.Rows)); rows > 0 {
			tryCall(t, "RowsAt", reflect.ValueOf(impl.RowsAt), []reflect.Value{given, reflect.ValueOf([]int64{rows - 1, 0, rows - 1})})
		}
	}
}

// TestPromise1MatricesShareNothing gives the same memory as several rows, and as both matrices.
func TestPromise1MatricesShareNothing(t *testing.T) {
	row := []int64{1, 2}
	m := matrixOf(5, 2, row, row)
	before := matrixText(m)
	transpose, one := impl.TransposeOf(m)
	product, two := impl.ProductOf(m, m)
	stack, three := impl.StackRows(m, m)
	chosen, four := impl.RowsAt(m, []int64{1, 1, 0, 1})
	echelon, five := impl.EchelonOf(m)
	kernel, six := impl.KernelOf(m)
	inverse, seven := impl.InverseOf(identity(5, 3))
	powers, eight := impl.PowersOf(5, row, 4)
	read, nine := impl.ReadMatrix(before)
	expect(t, "codes", show(one, two, three, four, five, six, seven, eight, nine), 0, 0, 0, 0, 0, 0, 0, 0, 0)
	results := []impl.Matrix{transpose, product, stack, chosen, echelon, kernel, inverse, powers, read}
	texts := []string{"matrix 5 2\nrow 1 1\nrow 2 2\n", "matrix 5 2\nrow 3 1\nrow 3 1\n", before + before[11:], before + before[11:], "matrix 5 2\nrow 1 2\n", "matrix 5 2\nrow 3 1\n",
		matrixText(identity(5, 3)), "matrix 5 4\nrow 1 1 1 1\nrow 1 2 4 3\n", before}
	for i, result := range results {
		expect(t, "a result", show(matrixText(result)), texts[i])
		if overlap(spansOf(reflect.ValueOf(result)), spansOf(reflect.ValueOf(m))) {
			t.Errorf("%s shares memory with its argument or itself", texts[i])
		}
		for k, list := range result.Rows {
			_ = append(list, 9)
			if k > 0 && result.Rows[k][0] > 4 {
				t.Errorf("%s: writing behind a row changed the next one", texts[i])
			}
			clear(list)
		}
	}
	expect(t, "the argument", show(matrixText(m)), before)
}

func TestPromise1NilIsEmptyInMatrices(t *testing.T) {
	pairs := [][2]impl.Matrix{
		{matrixOf(5, 2), {Prime: 5, Cols: 2, Rows: [][]int64{}}},
		{matrixOf(5, 0), {Prime: 5, Rows: [][]int64{}}},
		{matrixOf(5, 0, nil, nil), matrixOf(5, 0, []int64{}, []int64{})},
		{matrixOf(5, 1, nil), matrixOf(5, 1, []int64{})},
		{{}, {Rows: [][]int64{}}},
	}
	for _, pair := range pairs {
		expect(t, "SameMatrix", show(impl.SameMatrix(pair[0], pair[1]), impl.SameMatrix(pair[1], pair[0])), true, true)
		for name, f := range chapter3() {
			function := reflect.ValueOf(f)
			kind := function.Type()
			if kind.In(0) != reflect.TypeFor[impl.Matrix]() {
				continue
			}
			others := []reflect.Value{}
			if kind.NumIn() == 2 && kind.In(1) == kind.In(0) {
				others = []reflect.Value{reflect.ValueOf(pair[0]), reflect.ValueOf(pair[1])}
			} else if kind.NumIn() == 2 {
				others = []reflect.Value{reflect.ValueOf([]int64(nil)), reflect.ValueOf([]int64{})}
			}
			first := function.Call(append([]reflect.Value{reflect.ValueOf(pair[0])}, others[:len(others)/2]...))
			second := function.Call(append([]reflect.Value{reflect.ValueOf(pair[1])}, others[len(others)/2:]...))
			for k := range first {
				expect(t, name+" of "+show(pair), show(first[k].Interface()), second[k].Interface())
			}
		}
	}
	expect(t, "PowersOf", show(impl.PowersOf(5, nil, 3)), matrixOf(5, 3), impl.OK)
	expect(t, "PowersOf", show(impl.PowersOf(5, []int64{}, 3)), matrixOf(5, 3), impl.OK)
}

func TestPromise1HugeMatrices(t *testing.T) {
	const many = 1_000_000
	for _, m := range []impl.Matrix{
		matrixOf(2, 0, repeat([]int64{}, many)...), matrixOf(2, 1, repeat([]int64{1}, many)...), matrixOf(2, 12, repeat(int64(1), many)), matrixOf(2, many, repeat(int64(1), many)),
		matrixOf(many, many), matrixOf(math.MaxInt64, math.MaxInt64), matrixOf(math.MinInt64, math.MinInt64), matrixOf(2, 12, repeat(repeat(int64(1), 1000), 1000)...),
	} {
		other := impl.Matrix{Prime: m.Prime, Cols: m.Cols, Rows: append(slices.Clone(m.Rows), nil)}
		expect(t, "SameMatrix", show(impl.SameMatrix(m, m), impl.SameMatrix(m, other)), true, false)
		_, one := impl.TransposeOf(m)
		_, two := impl.ProductOf(m, m)
		_, three := impl.StackRows(m, m)
		_, four := impl.EchelonOf(m)
		_, five := impl.KernelOf(m)
		_, six := impl.InverseOf(m)
		_, seven := impl.DeterminantOf(m)
		_, eight := impl.SolveFor(m, nil)
		expect(t, "codes", show(impl.ValidMatrix(m), impl.MatrixText(m), one, two, three, four, five, six, seven, eight), false, "", 1, 1, 1, 1, 1, 1, 1, 1)
	}
	list, good := repeat(int64(0), many), identity(5, 12)
	_, one := impl.RowsAt(good, list)
	_, two := impl.IsSpanned(good, list)
	_, three := impl.Combination(good, list)
	_, four := impl.SolveFor(good, list)
	_, five := impl.PowersOf(5, list, 12)
	_, six := impl.ReadMatrix("matrix 2 0\n" + strings.Repeat("row\n", many/4))
	expect(t, "codes", show(one, two, three, four, five, six), 2, 2, 2, 2, 2, 2)
}
