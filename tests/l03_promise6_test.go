package tests

import (
	"math"
	"slices"
	"strings"
	"testing"

	"loop.example/g01117/impl"
)

func TestPromise6Example(t *testing.T) {
	m := matrixOf(5, 2, []int64{1, 2}, []int64{2, 4}, []int64{1, 0})
	expect(t, "EchelonOf", show(impl.EchelonOf(m)), matrixOf(5, 2, []int64{1, 0}, []int64{0, 1}), impl.OK)
	expect(t, "Combination", show(impl.Combination(m, []int64{0, 1})), []int64{3, 0, 2}, impl.OK)
	expect(t, "limits", show(impl.MaxPrime, impl.MaxRows, impl.MaxCols), 31, 20, 12)
}

func TestPromise6Primes(t *testing.T) {
	for p := int64(-40); p <= 2000; p++ {
		expect(t, "IsPrime", show(p, impl.IsPrime(p)), p, slices.Contains(allPrimes(), p))
	}
	for _, p := range []int64{math.MinInt64, -1 << 32, 1<<32 + 2, 1<<61 - 1, math.MaxInt64} {
		expect(t, "IsPrime", show(p, impl.IsPrime(p)), p, false)
	}
}

// trialNumbers returns all elements modulo p, and numbers that are none.
func trialNumbers(p int64) []int64 {
	numbers := []int64{math.MinInt64, math.MinInt64 + 1, -p, -1, p, p + 1, 2 * p, 1 << 32, math.MaxInt64}
	for a := range p {
		numbers = append(numbers, a)
	}
	return numbers
}

func TestPromise6SumsAndProducts(t *testing.T) {
	for _, p := range allPrimes() {
		for _, a := range trialNumbers(p) {
			for _, b := range trialNumbers(p) {
				if areRemainders(p, []int64{a, b}) {
					expect(t, "AddMod", show(impl.AddMod(p, a, b)), (a+b)%p, impl.OK)
					expect(t, "MulMod", show(impl.MulMod(p, a, b)), a*b%p, impl.OK)
				} else {
					expect(t, "AddMod", show(impl.AddMod(p, a, b)), 0, impl.ErrRange)
					expect(t, "MulMod", show(impl.MulMod(p, a, b)), 0, impl.ErrRange)
				}
			}
		}
	}
}

func TestPromise6Powers(t *testing.T) {
	for _, p := range allPrimes() {
		for a := range p {
			for n, wanted := int64(0), int64(1); n <= 1000; n++ {
				expect(t, "PowerMod", show(impl.PowerMod(p, a, n)), wanted, impl.OK)
				wanted = wanted * a % p
			}
			for _, n := range []int64{math.MinInt64, -1, 1001, 1 << 32, math.MaxInt64} {
				expect(t, "PowerMod", show(impl.PowerMod(p, a, n)), 0, impl.ErrRange)
			}
		}
		for _, a := range trialNumbers(p)[:9] {
			expect(t, "PowerMod of none", show(impl.PowerMod(p, a, 0)), 0, impl.ErrRange)
			expect(t, "PowerMod of none", show(impl.PowerMod(p, a, 2)), 0, impl.ErrRange)
		}
		expect(t, "0 to the power 0", show(impl.PowerMod(p, 0, 0)), 1, impl.OK)
	}
}

func TestPromise6Inverses(t *testing.T) {
	for _, p := range allPrimes() {
		for a := int64(1); a < p; a++ {
			expect(t, "InverseMod", show(impl.InverseMod(p, a)), inverseByTrial(p, a), impl.OK)
		}
		expect(t, "InverseMod of 0", show(impl.InverseMod(p, 0)), 0, impl.ErrState)
		for _, a := range trialNumbers(p)[:9] {
			expect(t, "InverseMod of none", show(impl.InverseMod(p, a)), 0, impl.ErrRange)
		}
	}
}

func TestPromise6NoPrimes(t *testing.T) {
	for p := int64(-3); p <= 100; p++ {
		if slices.Contains(allPrimes(), p) {
			continue
		}
		expect(t, "AddMod", show(impl.AddMod(p, 0, 0)), 0, impl.ErrRange)
		expect(t, "MulMod", show(impl.MulMod(p, 1, 1)), 0, impl.ErrRange)
		expect(t, "PowerMod", show(impl.PowerMod(p, 0, 0)), 0, impl.ErrRange)
		expect(t, "InverseMod", show(impl.InverseMod(p, 1)), 0, impl.ErrRange)
		expect(t, "InverseMod of 0", show(impl.InverseMod(p, 0)), 0, impl.ErrRange)
		expect(t, "PowersOf", show(impl.PowersOf(p, []int64{0}, 1)), impl.Matrix{}, impl.ErrRange)
		expect(t, "PowersOf no points", show(impl.PowersOf(p, nil, 0)), impl.Matrix{}, impl.ErrRange)
		m := matrixOf(p, 1, []int64{0})
		expect(t, "a matrix", show(impl.ValidMatrix(m), impl.MatrixText(m)), false, "")
		expect(t, "ReadMatrix", show(impl.ReadMatrix(matrixText(m))), impl.Matrix{}, impl.ErrSyntax)
	}
}

func TestPromise6ValidMatrices(t *testing.T) {
	everyMatrix(func(m impl.Matrix) {
		expect(t, "ValidMatrix of "+matrixText(m), show(impl.ValidMatrix(m)), true)
	})
	for _, m := range brokenMatrices() {
		expect(t, "a broken matrix "+show(m), show(isMatrix(m), impl.ValidMatrix(m), impl.MatrixText(m)), false, false, "")
	}
	for _, p := range allPrimes() {
		for rows := range 23 {
			for cols := range int64(15) {
				m := matrixOf(p, cols, repeat(repeat(p-1, int(cols)), rows)...)
				expect(t, "a size", show(impl.ValidMatrix(m)), rows <= 20 && cols <= 12)
				if rows > 0 && cols > 0 {
					m.Rows[rows-1] = slices.Clone(m.Rows[rows-1])
					m.Rows[rows-1][cols-1] = p
					expect(t, "the last element is none", show(impl.ValidMatrix(m)), false)
				}
			}
		}
	}
}

func TestPromise6SameMatrix(t *testing.T) {
	matrices := append(emptyMatrices(), brokenMatrices()...)
	for _, size := range [][3]int64{{2, 2, 2}, {3, 1, 2}, {3, 2, 1}, {5, 1, 2}} {
		matrices = append(matrices, allMatrices(size[0], int(size[1]), int(size[2]))...)
	}
	for i, m := range matrices {
		for k, n := range matrices {
			same := i == k || show(m) == show(n)
			expect(t, "SameMatrix of "+show(m, n), show(impl.SameMatrix(m, n)), same)
		}
	}
	largest := matrixOf(31, 12, repeat(repeat(int64(30), 12), 20)...)
	for row := range 20 {
		for col := range 12 {
			other := matrixOf(31, 12, slices.Clone(largest.Rows)...)
			other.Rows[row] = slices.Clone(largest.Rows[row])
			expect(t, "a copy", show(impl.SameMatrix(largest, other)), true)
			other.Rows[row][col] = 29
			expect(t, "one element differs", show(impl.SameMatrix(largest, other), impl.SameMatrix(other, largest)), false, false)
		}
	}
}

func TestPromise6TextsOfMatrices(t *testing.T) {
	everyMatrix(func(m impl.Matrix) {
		text := matrixText(m)
		expect(t, "MatrixText", show(impl.MatrixText(m)), text)
		expect(t, "ReadMatrix of "+text, show(impl.ReadMatrix(text)), m, impl.OK)
	})
	expect(t, "no rows, no columns", show(impl.MatrixText(matrixOf(2, 0))), "matrix 2 0\n")
	expect(t, "rows without columns", show(impl.MatrixText(matrixOf(3, 0, nil, nil))), "matrix 3 0\nrow\nrow\n")
	expect(t, "columns without rows", show(impl.MatrixText(matrixOf(31, 12))), "matrix 31 12\n")
	expect(t, "two rows", show(impl.MatrixText(matrixOf(11, 2, []int64{0, 10}, []int64{1, 2}))), "matrix 11 2\nrow 0 10\nrow 1 2\n")
	for _, m := range brokenMatrices() {
		expect(t, "ReadMatrix of "+matrixText(m), show(impl.ReadMatrix(matrixText(m))), impl.Matrix{}, impl.ErrSyntax)
	}
}

// TestPromise6NearlyTexts changes, adds and removes each byte of texts.
func TestPromise6NearlyTexts(t *testing.T) {
	const letters = "\n\r\t ,-+x.rowmatix0123456789\x00\xff"
	found := 0
	for _, text := range []string{"matrix 2 0\n", "matrix 3 0\nrow\nrow\n", "matrix 5 2\nrow 1 2\nrow 4 0\n", "matrix 31 1\nrow 30\nrow 0\nrow 1\n", "matrix 13 12\n", "matrix 7 3\nrow 6 5 4\n"} {
		nearly := []string{text, text + text, text + "\n", "\n" + text, strings.ToUpper(text), strings.TrimSuffix(text, "\n"), strings.ReplaceAll(text, "\n", "\r\n"), strings.ReplaceAll(text, " ", "  "), strings.ReplaceAll(text, "\n", " \n")}
		for _, s := range append(nearly, nearlyTexts(text, letters)...) {
			if m, ok := matrixWithText(s); ok {
				found++
				expect(t, "ReadMatrix of "+s, show(impl.ReadMatrix(s)), m, impl.OK)
			} else {
				expect(t, "ReadMatrix of "+s, show(impl.ReadMatrix(s)), impl.Matrix{}, impl.ErrSyntax)
			}
		}
	}
	if found < 200 {
		t.Errorf("only %d of the texts are of matrices", found)
	}
}

func TestPromise6TextsThatAreNone(t *testing.T) {
	for _, text := range []string{"", "\n", " ", "matrix", "matrix\n", "matrix 5\n", "matrix 5 \n", "matrix 5 2", "matrix 5 2 \n", " matrix 5 2\n", "matrix  5 2\n", "matrix 5 2 1\n", "matrix 5 2\n\n", "matrix 5 2\nrow 1 2",
		"matrix 5 2\nrow 1\n", "matrix 5 2\nrow 1 2 3\n", "matrix 5 2\nrow\n", "matrix 5 2\nrow 1 5\n", "matrix 5 2\nrow 1 -1\n", "matrix 5 2\nrow -0 1\n", "matrix 5 2\nrow 01 1\n", "matrix 5 2\nrow +1 1\n", "matrix 5 2\nrow 1 x\n", "matrix 5 2\nrow 1 \n",
		"matrix 5 2\nrows 1 2\n", "matrix 5 2\n 1 2\n", "matrix 5 2\n1 2\n", "matrix 5 2\nrow 1, 2\n", "matrix 5 2\nrow 1\t2\n", "matrix 5 2\nROW 1 2\n", "Matrix 5 2\n", "scheme 5 2\n", "matrix 5 2\nmatrix 5 2\n", "matrix 5 0\nrow \n", "matrix 5 0\nrow 0\n", "matrix 5 0\n\n",
		"matrix 4 0\n", "matrix 1 0\n", "matrix 0 0\n", "matrix -5 0\n", "matrix 37 0\n", "matrix 05 0\n", "matrix 5 00\n", "matrix 5 13\n", "matrix 5 -1\n", "matrix 5 x\n", "matrix x 2\n", "matrix 5.0 2\n", "matrix 0x5 2\n", "matrix five 2\n", "matrix \u0665 2\n",
		"matrix 9223372036854775807 0\n", "matrix 9223372036854775808 0\n", "matrix 18446744073709551621 0\n", "matrix 5 18446744073709551616\n", "matrix 5 1\nrow 18446744073709551617\n", "matrix 5 1\nrow 9223372036854775808\n", "matrix 5 1\nrow -9223372036854775808\n",
		"row 1 2\n", "\xff", "matrix 5 2\nrow \xff 1\n", "matrix 5 2\x00\n", "matrix 5 1\r\nrow 1\r\n"} {
		expect(t, "ReadMatrix of "+text, show(impl.ReadMatrix(text)), impl.Matrix{}, impl.ErrSyntax)
	}
}

func TestPromise6TextLimits(t *testing.T) {
	head := "matrix 31 12\n"
	line := "row" + strings.Repeat(" 30", 12) + "\n"
	expect(t, "20 rows", show(impl.ReadMatrix(head+strings.Repeat(line, 20))), matrixOf(31, 12, repeat(repeat(int64(30), 12), 20)...), impl.OK)
	expect(t, "21 rows", show(impl.ReadMatrix(head+strings.Repeat(line, 21))), impl.Matrix{}, impl.ErrSyntax)
	expect(t, "13 columns", show(impl.ReadMatrix("matrix 31 13\nrow"+strings.Repeat(" 30", 13)+"\n")), impl.Matrix{}, impl.ErrSyntax)
	expect(t, "20 rows without columns", show(impl.ReadMatrix("matrix 2 0\n"+strings.Repeat("row\n", 20))), matrixOf(2, 0, repeat([]int64{}, 20)...), impl.OK)
	expect(t, "21 rows without columns", show(impl.ReadMatrix("matrix 2 0\n"+strings.Repeat("row\n", 21))), impl.Matrix{}, impl.ErrSyntax)
	for _, begin := range []string{"", head, head + line, "matrix 2 0\n", "matrix "} {
		for _, part := range []string{"x", "\n", "1", " ", "\x00"} {
			expect(t, "4000 bytes", show(impl.ReadMatrix(begin+strings.Repeat(part, 4000-len(begin)))), impl.Matrix{}, impl.ErrSyntax)
			expect(t, "4001 bytes", show(impl.ReadMatrix(begin+strings.Repeat(part, 4001-len(begin)))), impl.Matrix{}, impl.ErrRange)
		}
	}
}

func TestPromise6Transposes(t *testing.T) {
	everyMatrix(func(m impl.Matrix) {
		if len(m.Rows) > 12 {
			expect(t, "TransposeOf of "+matrixText(m), show(impl.TransposeOf(m)), impl.Matrix{}, impl.ErrLimit)
			return
		}
		expect(t, "TransposeOf of "+matrixText(m), show(impl.TransposeOf(m)), matrixOf(m.Prime, int64(len(m.Rows)), columns(m)...), impl.OK)
	})
	for rows := range 21 {
		wanted, code := matrixOf(5, int64(rows)), int64(impl.OK)
		if rows > 12 {
			wanted, code = impl.Matrix{}, impl.ErrLimit
		}
		expect(t, "rows without columns", show(impl.TransposeOf(matrixOf(5, 0, repeat([]int64{}, rows)...))), wanted, code)
	}
	expect(t, "columns without rows", show(impl.TransposeOf(matrixOf(5, 3))), matrixOf(5, 0, nil, nil, nil), impl.OK)
}

func TestPromise6Products(t *testing.T) {
	var pairs [][2]impl.Matrix
	for _, m := range allMatrices(2, 2, 2) {
		for _, n := range slices.Concat(allMatrices(2, 2, 2), allMatrices(2, 2, 3), allMatrices(2, 2, 0)) {
			pairs = append(pairs, [2]impl.Matrix{m, n})
		}
	}
	for _, p := range allPrimes() {
		draw := drawer(uint64(p + 100))
		for range 60 {
			rows, middle, cols := draw(21), draw(13), draw(13)
			pairs = append(pairs, [2]impl.Matrix{someMatrix(draw, p, rows, middle), someMatrix(draw, p, middle, cols)})
		}
		pairs = append(pairs, [2]impl.Matrix{someMatrix(draw, p, 20, 12), someMatrix(draw, p, 12, 12)}, [2]impl.Matrix{someMatrix(draw, p, 20, 0), matrixOf(p, 12)},
			[2]impl.Matrix{matrixOf(p, 12), someMatrix(draw, p, 12, 1)}, [2]impl.Matrix{matrixOf(p, 0), matrixOf(p, 0)}, [2]impl.Matrix{someMatrix(draw, p, 3, 4), someMatrix(draw, p, 4, 0)})
	}
	for _, pair := range pairs {
		expect(t, "ProductOf of "+show(pair), show(impl.ProductOf(pair[0], pair[1])), productByDefinition(pair[0], pair[1]), impl.OK)
	}
	expect(t, "a sum of nothing", show(impl.ProductOf(matrixOf(3, 0, nil, nil), matrixOf(3, 2))), matrixOf(3, 2, []int64{0, 0}, []int64{0, 0}), impl.OK)
	a, b := matrixOf(5, 2, []int64{1, 2}), matrixOf(5, 1, []int64{3}, []int64{4})
	expect(t, "not the rows", show(impl.ProductOf(a, a)), impl.Matrix{}, impl.ErrRange)
	expect(t, "not the rows", show(impl.ProductOf(b, b)), impl.Matrix{}, impl.ErrRange)
	expect(t, "a row too many", show(impl.ProductOf(a, matrixOf(5, 1, []int64{3}, []int64{4}, []int64{0}))), impl.Matrix{}, impl.ErrRange)
	expect(t, "no rows", show(impl.ProductOf(a, matrixOf(5, 2))), impl.Matrix{}, impl.ErrRange)
	expect(t, "other primes", show(impl.ProductOf(a, matrixOf(7, 1, []int64{3}, []int64{4}))), impl.Matrix{}, impl.ErrRange)
	expect(t, "other primes of nothing", show(impl.ProductOf(matrixOf(2, 0), matrixOf(3, 0))), impl.Matrix{}, impl.ErrRange)
}

func TestPromise6StackedRows(t *testing.T) {
	for _, p := range allPrimes() {
		draw := drawer(uint64(p + 200))
		for rows := range int64(21) {
			for more := range int64(21) {
				cols := draw(13)
				m, n := someMatrix(draw, p, rows, cols), someMatrix(draw, p, more, cols)
				wanted, code := matrixOf(p, cols, slices.Concat(m.Rows, n.Rows)...), int64(impl.OK)
				if rows+more > 20 {
					wanted, code = impl.Matrix{}, impl.ErrLimit
				}
				expect(t, "StackRows", show(impl.StackRows(m, n)), wanted, code)
			}
		}
	}
	ten, eleven := matrixOf(5, 0, repeat([]int64{}, 10)...), matrixOf(5, 0, repeat([]int64{}, 11)...)
	expect(t, "20 rows without columns", show(impl.StackRows(ten, ten)), matrixOf(5, 0, repeat([]int64{}, 20)...), impl.OK)
	expect(t, "21 rows without columns", show(impl.StackRows(ten, eleven)), impl.Matrix{}, impl.ErrLimit)
	expect(t, "no rows", show(impl.StackRows(matrixOf(5, 3), matrixOf(5, 3))), matrixOf(5, 3), impl.OK)
	full := matrixOf(5, 1, repeat([]int64{4}, 20)...)
	expect(t, "other columns", show(impl.StackRows(matrixOf(5, 2), matrixOf(5, 1))), impl.Matrix{}, impl.ErrRange)
	expect(t, "other primes", show(impl.StackRows(matrixOf(5, 1), matrixOf(7, 1))), impl.Matrix{}, impl.ErrRange)
	expect(t, "other columns and too many rows", show(impl.StackRows(full, matrixOf(5, 2, []int64{0, 0}))), impl.Matrix{}, impl.ErrRange)
	expect(t, "other primes and too many rows", show(impl.StackRows(full, matrixOf(7, 1, []int64{0}))), impl.Matrix{}, impl.ErrRange)
	expect(t, "too many rows", show(impl.StackRows(full, matrixOf(5, 1, []int64{0}))), impl.Matrix{}, impl.ErrLimit)
	expect(t, "no more rows", show(impl.StackRows(full, matrixOf(5, 1))), full, impl.OK)
	expect(t, "no rows before", show(impl.StackRows(matrixOf(5, 1), full)), full, impl.OK)
}

func TestPromise6RowsAt(t *testing.T) {
	m := matrixOf(5, 2, []int64{1, 2}, []int64{3, 4}, []int64{0, 1})
	for length := range 4 {
		for _, rows := range allLists(3, length) {
			wanted := matrixOf(5, 2)
			for _, i := range rows {
				wanted.Rows = append(wanted.Rows, m.Rows[i])
			}
			expect(t, "RowsAt", show(impl.RowsAt(m, rows)), wanted, impl.OK)
		}
	}
	for _, none := range []int64{math.MinInt64, -1, 3, 20, 1 << 32, math.MaxInt64} {
		for at := range 3 {
			rows := []int64{0, 1, 2}
			rows[at] = none
			expect(t, "RowsAt of none", show(impl.RowsAt(m, rows)), impl.Matrix{}, impl.ErrRange)
		}
	}
	expect(t, "20 rows", show(impl.RowsAt(m, repeat(int64(1), 20))), matrixOf(5, 2, repeat([]int64{3, 4}, 20)...), impl.OK)
	expect(t, "21 rows", show(impl.RowsAt(m, repeat(int64(1), 21))), impl.Matrix{}, impl.ErrRange)
	expect(t, "no rows of none", show(impl.RowsAt(matrixOf(5, 2), nil)), matrixOf(5, 2), impl.OK)
	expect(t, "a row of none", show(impl.RowsAt(matrixOf(5, 2), []int64{0})), impl.Matrix{}, impl.ErrRange)
	expect(t, "no columns", show(impl.RowsAt(matrixOf(5, 0, nil, nil), []int64{1, 1, 0})), matrixOf(5, 0, nil, nil, nil), impl.OK)
	all := largestMatrices()[0]
	expect(t, "all rows", show(impl.RowsAt(all, countTo(20))), all, impl.OK)
}

// firstColumns returns the column of the first element of each row that is not 0, or -1.
func firstColumns(m impl.Matrix) []int {
	var firsts []int
	for _, row := range m.Rows {
		firsts = append(firsts, slices.IndexFunc(row, func(n int64) bool { return n != 0 }))
	}
	return firsts
}

func isEchelon(e impl.Matrix) bool {
	last := -1
	for i, first := range firstColumns(e) {
		if first <= last || e.Rows[i][first] != 1 {
			return false
		}
		for k, row := range e.Rows {
			if k != i && row[first] != 0 {
				return false
			}
		}
		last = first
	}
	return true
}

// spansAll reports whether the rows of m span those of n.
func spansAll(m, n impl.Matrix) bool {
	s, _ := spanOf(m.Prime, m.Rows)
	return !slices.ContainsFunc(n.Rows, func(row []int64) bool { return !s.has(row) })
}

func TestPromise6Echelons(t *testing.T) {
	everyMatrix(func(m impl.Matrix) {
		e, code := impl.EchelonOf(m)
		if code != impl.OK || e.Prime != m.Prime || e.Cols != m.Cols || !isMatrix(e) || !isEchelon(e) || !spansAll(m, e) || !spansAll(e, m) {
			t.Errorf("EchelonOf of %v: got %v, %d", m, e, code)
		}
		s, _ := spanOf(m.Prime, m.Rows)
		expect(t, "RankOf of "+matrixText(m), show(impl.RankOf(m)), len(s.first), impl.OK)
		expect(t, "EchelonOf of the echelon", show(impl.EchelonOf(e)), e, impl.OK)
	})
	for _, m := range emptyMatrices() {
		expect(t, "EchelonOf of nothing", show(impl.EchelonOf(m)), matrixOf(m.Prime, m.Cols), impl.OK)
		expect(t, "RankOf of nothing", show(impl.RankOf(m)), 0, impl.OK)
	}
	expect(t, "zeros", show(impl.EchelonOf(matrixOf(7, 2, []int64{0, 0}, []int64{0, 0}))), matrixOf(7, 2), impl.OK)
	expect(t, "a column of zeros", show(impl.EchelonOf(matrixOf(7, 3, []int64{0, 0, 3}, []int64{0, 2, 1}))), matrixOf(7, 3, []int64{0, 1, 0}, []int64{0, 0, 1}), impl.OK)
}

func TestPromise6Kernels(t *testing.T) {
	everyMatrix(func(m impl.Matrix) {
		if k, code := impl.KernelOf(m); code != impl.OK || !isKernel(m, k) {
			t.Errorf("KernelOf of %v: got %v, %d", m, k, code)
		}
	})
	for cols := range int64(13) {
		expect(t, "no rows", show(impl.KernelOf(matrixOf(3, cols))), identity(3, cols), impl.OK)
		expect(t, "a row of zeros", show(impl.KernelOf(matrixOf(3, cols, make([]int64, cols)))), identity(3, cols), impl.OK)
		expect(t, "nothing is left", show(impl.KernelOf(identity(3, cols))), matrixOf(3, cols), impl.OK)
	}
	expect(t, "one row", show(impl.KernelOf(matrixOf(5, 3, []int64{1, 2, 3}))), matrixOf(5, 3, []int64{3, 1, 0}, []int64{2, 0, 1}), impl.OK)
	expect(t, "no columns", show(impl.KernelOf(matrixOf(5, 0, repeat([]int64{}, 20)...))), matrixOf(5, 0), impl.OK)
}

func TestPromise6Squares(t *testing.T) {
	singular, good := 0, 0
	everyMatrix(func(m impl.Matrix) {
		if int64(len(m.Rows)) != m.Cols {
			expect(t, "InverseOf of no square", show(impl.InverseOf(m)), impl.Matrix{}, impl.ErrRange)
			expect(t, "DeterminantOf of no square", show(impl.DeterminantOf(m)), 0, impl.ErrRange)
			return
		}
		determinant := determinantByDefinition(m)
		expect(t, "DeterminantOf of "+matrixText(m), show(impl.DeterminantOf(m)), determinant, impl.OK)
		inverse, code := impl.InverseOf(m)
		if determinant == 0 {
			singular++
			expect(t, "InverseOf of "+matrixText(m), show(inverse, code), impl.Matrix{}, impl.ErrState)
			return
		}
		good++
		expect(t, "the code of InverseOf of "+matrixText(m), show(code, isMatrix(inverse)), impl.OK, true)
		one := identity(m.Prime, m.Cols)
		expect(t, "both products with the inverse", show(productByDefinition(m, inverse), productByDefinition(inverse, m)), one, one)
	})
	if singular < 100 || good < 100 {
		t.Errorf("%d matrices without and %d with an inverse are too few", singular, good)
	}
	for _, p := range allPrimes() {
		nothing := matrixOf(p, 0)
		expect(t, "DeterminantOf of nothing", show(impl.DeterminantOf(nothing)), 1, impl.OK)
		expect(t, "InverseOf of nothing", show(impl.InverseOf(nothing)), nothing, impl.OK)
		expect(t, "DeterminantOf of exchanged rows", show(impl.DeterminantOf(matrixOf(p, 2, []int64{0, 1}, []int64{1, 0}))), p-1, impl.OK)
		expect(t, "rows without columns", show(impl.DeterminantOf(matrixOf(p, 0, nil))), 0, impl.ErrRange)
		expect(t, "columns without rows", show(impl.DeterminantOf(matrixOf(p, 1))), 0, impl.ErrRange)
		expect(t, "rows without columns", show(impl.InverseOf(matrixOf(p, 0, nil))), impl.Matrix{}, impl.ErrRange)
		expect(t, "columns without rows", show(impl.InverseOf(matrixOf(p, 1))), impl.Matrix{}, impl.ErrRange)
		expect(t, "zeros, and no square", show(impl.InverseOf(matrixOf(p, 2, []int64{0, 0}))), impl.Matrix{}, impl.ErrRange)
	}
}

// trialTargets returns all lists of so many elements if these are few; otherwise zeros, ones with a single 1, some lists, and sums of those given.
func trialTargets(draw func(int64) int64, p int64, length int, sums [][]int64) [][]int64 {
	if math.Pow(float64(p), float64(length)) < 30 {
		return allLists(p, length)
	}
	targets := [][]int64{make([]int64, length), unit(int64(length), draw(int64(length)))}
	for range 3 {
		list, sum := make([]int64, length), make([]int64, length)
		for i := range list {
			list[i] = draw(p)
		}
		for _, other := range sums {
			factor := draw(p)
			for i := range sum {
				sum[i] = (sum[i] + factor*other[i]) % p
			}
		}
		targets = append(targets, list, sum)
	}
	return targets
}

func TestPromise6Combinations(t *testing.T) {
	draw, spanned, not := drawer(6), 0, 0
	everyMatrix(func(m impl.Matrix) {
		s, _ := spanOf(m.Prime, m.Rows)
		for _, target := range trialTargets(draw, m.Prime, int(m.Cols), m.Rows) {
			what := "Combination of " + matrixText(m) + show(target)
			list, code := impl.Combination(m, target)
			expect(t, "IsSpanned of "+what, show(impl.IsSpanned(m, target)), s.has(target), impl.OK)
			if !s.has(target) {
				not++
				expect(t, what, show(list, code), []int64{}, impl.ErrNotFound)
				continue
			}
			spanned++
			expect(t, what+show(list), show(code, isCombination(m, target, list)), impl.OK, true)
		}
	})
	if spanned < 1000 || not < 1000 {
		t.Errorf("%d targets that are and %d that are not spanned are too few", spanned, not)
	}
}

func TestPromise6Solutions(t *testing.T) {
	draw, solved, not := drawer(7), 0, 0
	everyMatrix(func(m impl.Matrix) {
		s, _ := spanOf(m.Prime, columns(m))
		for _, values := range trialTargets(draw, m.Prime, len(m.Rows), columns(m)) {
			what := "SolveFor of " + matrixText(m) + show(values)
			list, code := impl.SolveFor(m, values)
			if !s.has(values) {
				not++
				expect(t, what, show(list, code), []int64{}, impl.ErrNotFound)
				continue
			}
			solved++
			expect(t, what+show(list), show(code, isSolution(m, values, list)), impl.OK, true)
		}
	})
	if solved < 1000 || not < 1000 {
		t.Errorf("%d values that are and %d that are not products are too few", solved, not)
	}
}

// TestPromise6OnlyOneList checks against all lists that there are that the lists returned are the only ones allowed.
func TestPromise6OnlyOneList(t *testing.T) {
	for _, m := range slices.Concat(allMatrices(2, 3, 2), allMatrices(2, 2, 3), allMatrices(3, 2, 2), allMatrices(3, 3, 1), allMatrices(2, 0, 2), allMatrices(2, 2, 0)) {
		for _, target := range allLists(m.Prime, int(m.Cols)) {
			allowed := [][]int64{}
			for _, list := range allLists(m.Prime, len(m.Rows)) {
				if isCombination(m, target, list) {
					allowed = append(allowed, list)
				}
			}
			list, code := impl.Combination(m, target)
			expect(t, "Combination of "+show(m, target), show(code == impl.OK, len(allowed)), len(allowed) == 1, len(allowed))
			expect(t, "the only one", show(append([][]int64{}, list)), append(allowed, nil)[:1])
		}
		for _, values := range allLists(m.Prime, len(m.Rows)) {
			allowed := [][]int64{}
			for _, list := range allLists(m.Prime, int(m.Cols)) {
				if isSolution(m, values, list) {
					allowed = append(allowed, list)
				}
			}
			list, code := impl.SolveFor(m, values)
			expect(t, "SolveFor of "+show(m, values), show(code == impl.OK, len(allowed)), len(allowed) == 1, len(allowed))
			expect(t, "the only one", show(append([][]int64{}, list)), append(allowed, nil)[:1])
		}
	}
}

func TestPromise6EmptyCombinations(t *testing.T) {
	expect(t, "nothing of nothing", show(impl.Combination(matrixOf(2, 0), nil)), []int64{}, impl.OK)
	expect(t, "nothing of rows", show(impl.Combination(matrixOf(2, 0, nil, nil), nil)), []int64{0, 0}, impl.OK)
	expect(t, "zeros of no rows", show(impl.Combination(matrixOf(2, 2), []int64{0, 0})), []int64{}, impl.OK)
	expect(t, "a 1 of no rows", show(impl.Combination(matrixOf(2, 2), []int64{0, 1})), []int64{}, impl.ErrNotFound)
	expect(t, "nothing is spanned", show(impl.IsSpanned(matrixOf(2, 0), nil)), true, impl.OK)
	expect(t, "nothing is spanned by rows", show(impl.IsSpanned(matrixOf(2, 0, nil), nil)), true, impl.OK)
	expect(t, "zeros are spanned", show(impl.IsSpanned(matrixOf(2, 2), []int64{0, 0})), true, impl.OK)
	expect(t, "a 1 is not", show(impl.IsSpanned(matrixOf(2, 2), []int64{0, 1})), false, impl.OK)
	expect(t, "no values", show(impl.SolveFor(matrixOf(2, 0), nil)), []int64{}, impl.OK)
	expect(t, "columns without rows", show(impl.SolveFor(matrixOf(2, 3), nil)), []int64{0, 0, 0}, impl.OK)
	expect(t, "zeros without columns", show(impl.SolveFor(matrixOf(2, 0, nil, nil), []int64{0, 0})), []int64{}, impl.OK)
	expect(t, "a 1 without columns", show(impl.SolveFor(matrixOf(2, 0, nil, nil), []int64{0, 1})), []int64{}, impl.ErrNotFound)
	expect(t, "a first row of zeros", show(impl.Combination(matrixOf(3, 1, []int64{0}, []int64{2}, []int64{1}), []int64{1})), []int64{0, 2, 0}, impl.OK)
}

func TestPromise6CombinationErrors(t *testing.T) {
	m := matrixOf(5, 2, []int64{1, 2}, []int64{2, 4}, []int64{3, 1})
	for _, target := range [][]int64{nil, {1}, {1, 2, 0}, {5, 0}, {0, 5}, {-1, 0}, {0, -1}, {math.MinInt64, 0}, {0, math.MaxInt64}, repeat(int64(0), 13)} {
		expect(t, "IsSpanned", show(impl.IsSpanned(m, target)), false, impl.ErrRange)
		expect(t, "Combination", show(impl.Combination(m, target)), []int64{}, impl.ErrRange)
	}
	for _, values := range [][]int64{nil, {0}, {0, 0}, {0, 0, 0, 0}, {5, 0, 0}, {1, 0, 5}, {0, -1, 0}, {math.MaxInt64, 0, 0}} {
		expect(t, "SolveFor", show(impl.SolveFor(m, values)), []int64{}, impl.ErrRange)
	}
	expect(t, "not spanned", show(impl.IsSpanned(m, []int64{1, 0})), false, impl.OK)
	expect(t, "not spanned", show(impl.Combination(m, []int64{1, 0})), []int64{}, impl.ErrNotFound)
	expect(t, "not solved", show(impl.SolveFor(m, []int64{1, 0, 0})), []int64{}, impl.ErrNotFound)
	expect(t, "no list of nothing", show(impl.Combination(matrixOf(5, 0), []int64{0})), []int64{}, impl.ErrRange)
	expect(t, "no values of nothing", show(impl.SolveFor(matrixOf(5, 0), []int64{0})), []int64{}, impl.ErrRange)
}

func TestPromise6PowersOfPoints(t *testing.T) {
	for _, p := range allPrimes() {
		points := []int64{0}
		for x := p - 1; x >= 0 && len(points) < 20; x-- {
			points = append(points, x)
		}
		for cols := range int64(13) {
			wanted := matrixOf(p, cols)
			for _, x := range points {
				list := []int64{}
				for power := int64(1); int64(len(list)) < cols; power = power * x % p {
					list = append(list, power)
				}
				wanted.Rows = append(wanted.Rows, list)
			}
			expect(t, "PowersOf", show(impl.PowersOf(p, points, cols)), wanted, impl.OK)
			expect(t, "PowersOf no points", show(impl.PowersOf(p, nil, cols)), matrixOf(p, cols), impl.OK)
		}
		for _, none := range trialNumbers(p)[:9] {
			expect(t, "PowersOf none", show(impl.PowersOf(p, []int64{0, none}, 2)), impl.Matrix{}, impl.ErrRange)
			expect(t, "PowersOf none", show(impl.PowersOf(p, []int64{none, 0}, 0)), impl.Matrix{}, impl.ErrRange)
		}
		for _, cols := range []int64{math.MinInt64, -1, 13, 1 << 32, math.MaxInt64} {
			expect(t, "PowersOf", show(impl.PowersOf(p, []int64{1}, cols)), impl.Matrix{}, impl.ErrRange)
			expect(t, "PowersOf", show(impl.PowersOf(p, nil, cols)), impl.Matrix{}, impl.ErrRange)
		}
	}
	expect(t, "0 to the power 0", show(impl.PowersOf(2, []int64{0}, 3)), matrixOf(2, 3, []int64{1, 0, 0}), impl.OK)
	expect(t, "20 points", show(impl.PowersOf(3, repeat(int64(2), 20), 2)), matrixOf(3, 2, repeat([]int64{1, 2}, 20)...), impl.OK)
	expect(t, "21 points", show(impl.PowersOf(3, repeat(int64(2), 21), 2)), impl.Matrix{}, impl.ErrRange)
	expect(t, "20 points without columns", show(impl.PowersOf(3, repeat(int64(2), 20), 0)), matrixOf(3, 0, repeat([]int64{}, 20)...), impl.OK)
}

// TestPromise6InvalidFirst gives broken matrices together with whatever else is wrong.
func TestPromise6InvalidFirst(t *testing.T) {
	none := impl.Matrix{}
	for _, m := range brokenMatrices() {
		for _, good := range []impl.Matrix{matrixOf(7, 1), matrixOf(5, 2, repeat([]int64{1, 1}, 20)...), matrixOf(2, 0)} {
			expect(t, "ProductOf", show(impl.ProductOf(m, good)), none, impl.ErrInvalid)
			expect(t, "ProductOf", show(impl.ProductOf(good, m)), none, impl.ErrInvalid)
			expect(t, "StackRows", show(impl.StackRows(m, good)), none, impl.ErrInvalid)
			expect(t, "StackRows", show(impl.StackRows(good, m)), none, impl.ErrInvalid)
		}
		expect(t, "ProductOf", show(impl.ProductOf(m, m)), none, impl.ErrInvalid)
		expect(t, "StackRows", show(impl.StackRows(m, m)), none, impl.ErrInvalid)
		expect(t, "TransposeOf", show(impl.TransposeOf(m)), none, impl.ErrInvalid)
		expect(t, "EchelonOf", show(impl.EchelonOf(m)), none, impl.ErrInvalid)
		expect(t, "RankOf", show(impl.RankOf(m)), 0, impl.ErrInvalid)
		expect(t, "KernelOf", show(impl.KernelOf(m)), none, impl.ErrInvalid)
		expect(t, "InverseOf", show(impl.InverseOf(m)), none, impl.ErrInvalid)
		expect(t, "DeterminantOf", show(impl.DeterminantOf(m)), 0, impl.ErrInvalid)
		for _, list := range [][]int64{nil, {0}, {0, 0}, {9}, {-1, 0}, repeat(int64(0), 21)} {
			expect(t, "RowsAt", show(impl.RowsAt(m, list)), none, impl.ErrInvalid)
			expect(t, "IsSpanned", show(impl.IsSpanned(m, list)), false, impl.ErrInvalid)
			expect(t, "Combination", show(impl.Combination(m, list)), []int64{}, impl.ErrInvalid)
			expect(t, "SolveFor", show(impl.SolveFor(m, list)), []int64{}, impl.ErrInvalid)
		}
	}
}
