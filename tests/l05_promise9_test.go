package tests

import (
	"math"
	"slices"
	"testing"

	"loop.example/g01117/impl"
)

func TestPromise9Example(t *testing.T) {
	shares, code := impl.DealShares(7, []int64{4, 2}, []int64{1, 2, 3})
	expect(t, "DealShares", show(shares, code), []impl.Share{{At: 1, Value: 6}, {At: 2, Value: 1}, {At: 3, Value: 3}}, impl.OK)
	expect(t, "WeightsFor", show(impl.WeightsFor(7, []int64{1, 2}, 0)), []int64{2, 6}, impl.OK)
	expect(t, "CountSecrets", show(impl.CountSecrets(7, shares[:1], 1)), repeat(1, 7), impl.OK)
	expect(t, "the limits", show(impl.MaxShares, impl.MaxDegree, impl.MaxCurves), 10, 6, 300)
}

// TestPromise9ValidCurves tries all short lists, also of numbers that are no residues, and the longest ones.
func TestPromise9ValidCurves(t *testing.T) {
	for p := int64(-3); p <= 40; p++ {
		for length := range 4 {
			for _, list := range allLists(5, length) {
				for i := range list {
					list[i]-- // from -1 to 3
				}
				expect(t, "ValidCurve of "+show(p, list), show(impl.ValidCurve(p, list)), isCurve(p, list))
			}
		}
		for length := range 10 {
			list := make([]int64, length)
			expect(t, "zeros", show(p, length, impl.ValidCurve(p, list)), p, length, isCurve(p, list))
			for i := range list {
				for _, n := range []int64{p - 1, p} {
					list[i] = n
					expect(t, "ValidCurve of "+show(p, list), show(impl.ValidCurve(p, list)), isCurve(p, list))
				}
				list[i] = 0
			}
			list = repeat(p-1, length)
			expect(t, "ValidCurve of "+show(p, list), show(impl.ValidCurve(p, list)), isCurve(p, list))
		}
	}
	for _, p := range notPrimes() {
		expect(t, "no prime", show(p, impl.ValidCurve(p, nil), impl.ValidCurve(p, []int64{1}), impl.ValidShares(p, nil), impl.ValidShares(p, sharesAt([]int64{1}, []int64{0}))), p, false, false, false, false)
	}
	for _, p := range allPrimes() {
		expect(t, "nothing is a curve, and shares", show(impl.ValidCurve(p, nil), impl.ValidShares(p, nil)), true, true)
		for _, c := range brokenCurves(p) {
			expect(t, "a broken curve "+show(p, c), show(isCurve(p, c), impl.ValidCurve(p, c)), false, false)
		}
	}
}

func TestPromise9ValidShares(t *testing.T) {
	for p := int64(-3); p <= 40; p++ {
		for length := range 4 {
			for _, points := range allLists(5, length) {
				for i := range points {
					points[i]--
				}
				shares := sharesAt(points, make([]int64, length))
				expect(t, "ValidShares at "+show(p, points), show(impl.ValidShares(p, shares)), areShares(p, shares))
			}
			for _, values := range allLists(5, length) {
				for i := range values {
					values[i] += p - 3 // from p - 3 to p + 1
				}
				shares := sharesAt(countTo(int64(length) + 1)[1:], values)
				expect(t, "ValidShares of "+show(p, shares), show(impl.ValidShares(p, shares)), areShares(p, shares))
			}
		}
		for count := range int64(15) {
			for from := range int64(30) {
				points := []int64{}
				for i := range count {
					points = append(points, from+i)
				}
				shares := sharesAt(points, make([]int64, count))
				expect(t, "ValidShares at "+show(p, points), show(impl.ValidShares(p, shares)), areShares(p, shares))
			}
		}
	}
	for _, p := range allPrimes() {
		for _, shares := range brokenShares(p) {
			expect(t, "broken shares "+show(p, shares), show(areShares(p, shares), impl.ValidShares(p, shares)), false, false)
		}
	}
}

// curvesToTry returns all small curves of the least primes, and some of each degree of all primes.
func curvesToTry(p int64) [][]int64 {
	degrees := map[int64]int64{2: 6, 3: 2, 5: 1}
	degree, few := degrees[p]
	if !few {
		degree = 0
	}
	curves, draw := allCurves(p, degree), drawer(uint64(p)+900)
	for degree := range int64(7) {
		curves = append(curves, somePolynomial(draw, p, degree), somePolynomial(draw, p, degree), append(make([]int64, degree), p-1), repeat(p-1, int(degree+1)))
	}
	return curves
}

func TestPromise9Values(t *testing.T) {
	for _, p := range allPrimes() {
		for _, c := range curvesToTry(p) {
			for x := range p {
				expect(t, "CurveAt of "+show(p, c, x), show(impl.CurveAt(p, c, x)), valueOn(p, c, x), impl.OK)
			}
		}
	}
	expect(t, "the curve without coefficients", show(impl.CurveAt(31, nil, 30)), 0, impl.OK)
	expect(t, "0 at 0", show(impl.CurveAt(31, []int64{7, 5}, 0)), 7, impl.OK)
}

// TestPromise9SumsOfCurves has curves whose last coefficients are 0 together, and some that are nothing together.
func TestPromise9SumsOfCurves(t *testing.T) {
	for _, p := range allPrimes() {
		curves := curvesToTry(p)
		for _, a := range curves {
			negative := []int64{}
			for _, n := range a {
				negative = append(negative, (p-n)%p)
			}
			expect(t, "a curve less itself", show(impl.AddCurves(p, a, negative)), []int64{}, impl.OK)
			for _, b := range curves {
				sum := make([]int64, 7)
				for i := range sum {
					for _, c := range [][]int64{a, b} {
						if i < len(c) {
							sum[i] = (sum[i] + c[i]) % p
						}
					}
				}
				expect(t, "AddCurves of "+show(p, a, b), show(impl.AddCurves(p, a, b)), withoutZeros(sum), impl.OK)
			}
			for factor := range p {
				product := []int64{}
				for _, n := range a {
					product = append(product, n*factor%p)
				}
				expect(t, "ScaleCurve of "+show(p, a, factor), show(impl.ScaleCurve(p, a, factor)), withoutZeros(product), impl.OK)
			}
		}
	}
	expect(t, "shorter than both", show(impl.AddCurves(5, []int64{1, 2, 3}, []int64{2, 3, 2})), []int64{3}, impl.OK)
	expect(t, "of the greatest degree", show(impl.AddCurves(5, repeat(int64(4), 7), []int64{1})), []int64{0, 4, 4, 4, 4, 4, 4}, impl.OK)
	expect(t, "0 times as great", show(impl.ScaleCurve(5, repeat(int64(4), 7), 0)), []int64{}, impl.OK)
}

func TestPromise9Dealt(t *testing.T) {
	for _, p := range allPrimes() {
		draw := drawer(uint64(p) + 910)
		for _, c := range curvesToTry(p) {
			for range 4 {
				points := somePoints(draw, p, draw(mostShares(p)+1))
				shares, code := impl.DealShares(p, c, points)
				expect(t, "DealShares of "+show(p, c, points), show(shares, code, impl.ValidShares(p, shares)), sharesOn(p, c, points), impl.OK, true)
			}
		}
		most := countTo(mostShares(p) + 1)[1:]
		expect(t, "as many as there may be", show(impl.DealShares(p, []int64{1}, most)), sharesAt(most, repeat(int64(1), len(most))), impl.OK)
		expect(t, "no points", show(impl.DealShares(p, []int64{1}, nil)), []impl.Share{}, impl.OK)
		expect(t, "the last point", show(impl.DealShares(p, nil, []int64{p - 1})), []impl.Share{{At: p - 1}}, impl.OK)
	}
}

// TestPromise9AllSmallShares compares all shares of the least primes with all curves, from which those through them are picked.
func TestPromise9AllSmallShares(t *testing.T) {
	for p, greatest := range map[int64]int64{2: 6, 3: 6, 5: 3} {
		curves := allCurves(p, greatest)
		for _, shares := range allShares(p) {
			counts, lies := make([][]int64, greatest+1), make([]bool, greatest+2)
			for degree := range counts {
				counts[degree] = make([]int64, p)
			}
			for _, c := range curves {
				if len(missing(p, c, shares)) > 0 {
					continue
				}
				if len(c) <= len(shares) {
					checkThrough(t, p, shares, c)
				}
				for degree := int64(len(c)) - 1; degree <= greatest; degree++ {
					lies[degree+1] = true
					if degree >= 0 {
						counts[degree][valueOn(p, c, 0)]++
					}
				}
			}
			for degree := int64(-1); degree <= greatest; degree++ {
				expect(t, "LiesOn of "+show(p, shares, degree), show(impl.LiesOn(p, shares, degree)), lies[degree+1], impl.OK)
				if degree >= 0 {
					expect(t, "CountSecrets of "+show(p, shares, degree), show(impl.CountSecrets(p, shares, degree)), counts[degree], impl.OK)
				}
			}
		}
	}
}

// checkThrough checks what shares tell of the polynomial through them.
func checkThrough(t *testing.T, p int64, shares []impl.Share, c []int64) {
	t.Helper()
	if len(c) <= 7 {
		expect(t, "CurveThrough of "+show(p, shares), show(impl.CurveThrough(p, shares)), c, impl.OK)
	} else {
		expect(t, "CurveThrough of "+show(p, shares), show(impl.CurveThrough(p, shares)), []int64{}, impl.ErrLimit)
	}
	if len(shares) == 0 {
		return
	}
	for x := range p {
		expect(t, "OpenAt of "+show(p, shares, x), show(impl.OpenAt(p, shares, x)), valueOn(p, c, x), impl.OK)
	}
}

// TestPromise9Rebuilt rebuilds polynomials, also of greater degrees than curves may have, from enough shares.
func TestPromise9Rebuilt(t *testing.T) {
	for _, p := range allPrimes() {
		draw := drawer(uint64(p) + 920)
		for count := int64(1); count <= mostShares(p); count++ {
			for degree := int64(-1); degree < count; degree++ {
				for range 5 {
					c, points := somePolynomial(draw, p, degree), somePoints(draw, p, count)
					shares := sharesOn(p, c, points)
					checkThrough(t, p, shares, c)
					for most := int64(-1); most <= 6; most++ {
						expect(t, "LiesOn of "+show(p, shares, most), show(impl.LiesOn(p, shares, most)), degree <= most, impl.OK)
					}
				}
			}
		}
	}
	ten := countTo(11)[1:]
	for length := 1; length <= 10; length++ {
		c := repeat(int64(1), length)
		checkThrough(t, 31, sharesOn(31, c, ten), c)
	}
	expect(t, "no shares", show(impl.CurveThrough(2, nil)), []int64{}, impl.OK)
	expect(t, "no shares", show(impl.LiesOn(2, nil, -1)), true, impl.OK)
	expect(t, "values of 0", show(impl.LiesOn(13, sharesAt(ten, make([]int64, 10)), -1)), true, impl.OK)
	expect(t, "a value of 1", show(impl.LiesOn(13, sharesAt(ten, unit(10, 9)), -1)), false, impl.OK)
	expect(t, "the prime 2", show(impl.OpenAt(2, sharesAt([]int64{1}, []int64{1}), 0)), 1, impl.OK)
}

// checkWeights checks weights with the powers of x, of which all curves are sums of multiples.
func checkWeights(t *testing.T, p int64, points []int64, at int64) {
	t.Helper()
	weights, code := impl.WeightsFor(p, points, at)
	if code != impl.OK || len(weights) != len(points) || !areRemainders(p, weights) {
		t.Errorf("WeightsFor of %d %v %d: %v with the code %d", p, points, at, weights, code)
		return
	}
	for k := range int64(len(points)) {
		power := unit(k+1, k)
		if got, want := dot(p, weights, valuesOn(p, power, points)), valueOn(p, power, at); got != want {
			t.Errorf("WeightsFor of %d %v %d: %v make the power %d %d, not %d", p, points, at, weights, k, got, want)
		}
	}
}

func TestPromise9Weights(t *testing.T) {
	for _, p := range []int64{2, 3, 5, 7, 11} {
		for _, points := range allPoints(p)[1:] {
			for at := range p {
				checkWeights(t, p, points, at)
			}
		}
	}
	for _, p := range allPrimes() {
		draw := drawer(uint64(p) + 930)
		for count := int64(1); count <= mostShares(p); count++ {
			for range 4 {
				points := somePoints(draw, p, count)
				for at := range p {
					checkWeights(t, p, points, at)
				}
				i := draw(count)
				expect(t, "the weights at a point", show(impl.WeightsFor(p, points, points[i])), unit(count, i), impl.OK)
			}
		}
	}
	expect(t, "one point", show(impl.WeightsFor(2, []int64{1}, 0)), []int64{1}, impl.OK)
}

// TestPromise9Secrets counts the curves through shares that are too few, just enough, and more.
func TestPromise9Secrets(t *testing.T) {
	for _, p := range allPrimes() {
		draw := drawer(uint64(p) + 940)
		for degree := range int64(7) {
			for count := range mostShares(p) + 1 {
				points := somePoints(draw, p, count)
				c := withoutZeros(someResidues(draw, p, degree+1))
				shares := sharesOn(p, c, points)
				what := "CountSecrets of " + show(p, shares, degree)
				if count <= degree {
					// All values are possible, and each secret is in as many curves.
					shares = sharesAt(points, someResidues(draw, p, count))
					expect(t, what, show(impl.CountSecrets(p, shares, degree)), repeat(powerOf(p, degree-count), int(p)), impl.OK)
					continue
				}
				expect(t, what, show(impl.CountSecrets(p, shares, degree)), unit(p, valueOn(p, c, 0)), impl.OK)
				if count > degree+1 {
					shares = changedAt(draw, p, shares, 1<<draw(count))
					expect(t, what+" changed", show(impl.CountSecrets(p, shares, degree)), make([]int64, p), impl.OK)
					expect(t, "LiesOn, changed", show(impl.LiesOn(p, shares, degree)), false, impl.OK)
				}
			}
		}
	}
	expect(t, "no shares, the greatest degree", show(impl.CountSecrets(31, nil, 6)), repeat(887503681, 31), impl.OK)
	expect(t, "as many as the degree", show(impl.CountSecrets(31, sharesAt([]int64{3, 4, 5, 6, 7, 30}, []int64{9, 9, 0, 1, 2, 30}), 6)), repeat(1, 31), impl.OK)
	expect(t, "the degree 0", show(impl.CountSecrets(3, sharesAt([]int64{2}, []int64{2}), 0)), []int64{0, 0, 1}, impl.OK)
	expect(t, "more coefficients than points", show(impl.CountSecrets(2, sharesAt([]int64{1}, []int64{1}), 6)), []int64{32, 32}, impl.OK)
}

// TestPromise9NotPrimes gives each function a number that is no prime, with arguments that are good or bad otherwise.
func TestPromise9NotPrimes(t *testing.T) {
	const bad, no = impl.ErrInvalid, -1
	shares := sharesAt([]int64{1}, []int64{0})
	for _, p := range notPrimes() {
		for _, s := range [][]impl.Share{nil, shares, sharesAt([]int64{0}, []int64{no})} {
			for _, n := range []int64{0, 1, no} {
				expect(t, "OpenAt", show(impl.OpenAt(p, s, n)), 0, bad)
				expect(t, "LiesOn", show(impl.LiesOn(p, s, n-1)), false, bad)
				expect(t, "CountSecrets", show(impl.CountSecrets(p, s, n)), []int64{}, bad)
			}
			expect(t, "CurveThrough", show(impl.CurveThrough(p, s)), []int64{}, bad)
		}
		for _, list := range [][]int64{nil, {1}, {no}, {0}, repeat(int64(1), 11)} {
			for _, n := range []int64{0, 1, no} {
				expect(t, "CurveAt", show(impl.CurveAt(p, list, n)), 0, bad)
				expect(t, "ScaleCurve", show(impl.ScaleCurve(p, list, n)), []int64{}, bad)
				expect(t, "WeightsFor", show(impl.WeightsFor(p, list, n)), []int64{}, bad)
			}
			for _, other := range [][]int64{nil, {1}, {no}} {
				expect(t, "AddCurves", show(impl.AddCurves(p, list, other)), []int64{}, bad)
				expect(t, "DealShares", show(impl.DealShares(p, list, other)), []impl.Share{}, bad)
			}
		}
	}
}

// TestPromise9BrokenCurves gives curves and shares that are not valid, with arguments that are good or bad otherwise.
func TestPromise9BrokenCurves(t *testing.T) {
	for _, p := range allPrimes() {
		for _, c := range brokenCurves(p) {
			for _, n := range []int64{0, 1, p, -1} {
				expect(t, "CurveAt of "+show(p, c, n), show(impl.CurveAt(p, c, n)), 0, impl.ErrInvalid)
				expect(t, "ScaleCurve of "+show(p, c, n), show(impl.ScaleCurve(p, c, n)), []int64{}, impl.ErrInvalid)
			}
			for _, list := range [][]int64{nil, {1}, c} {
				expect(t, "AddCurves of "+show(p, c), show(impl.AddCurves(p, c, list)), []int64{}, impl.ErrInvalid)
				expect(t, "AddCurves of "+show(p, c), show(impl.AddCurves(p, list, c)), []int64{}, impl.ErrInvalid)
			}
			for _, points := range [][]int64{nil, {1}, {0}, {1, 1}} {
				expect(t, "DealShares of "+show(p, c), show(impl.DealShares(p, c, points)), []impl.Share{}, impl.ErrInvalid)
			}
		}
		for _, shares := range brokenShares(p) {
			for _, n := range []int64{0, 1, p, -1, 7, math.MaxInt64} {
				expect(t, "OpenAt of "+show(p, shares), show(impl.OpenAt(p, shares, n)), 0, impl.ErrInvalid)
				expect(t, "LiesOn of "+show(p, shares), show(impl.LiesOn(p, shares, n)), false, impl.ErrInvalid)
				expect(t, "CountSecrets of "+show(p, shares), show(impl.CountSecrets(p, shares, n)), []int64{}, impl.ErrInvalid)
			}
			expect(t, "CurveThrough of "+show(p, shares), show(impl.CurveThrough(p, shares)), []int64{}, impl.ErrInvalid)
		}
	}
}

// TestPromise9Ranges gives numbers that are no residues, points that are none, and degrees that are too small or too great.
func TestPromise9Ranges(t *testing.T) {
	for _, p := range allPrimes() {
		for _, n := range notResidues(p) {
			for _, c := range [][]int64{nil, {1}, repeat(int64(1), 7)} {
				expect(t, "CurveAt at "+show(p, n), show(impl.CurveAt(p, c, n)), 0, impl.ErrRange)
				expect(t, "ScaleCurve by "+show(p, n), show(impl.ScaleCurve(p, c, n)), []int64{}, impl.ErrRange)
			}
			expect(t, "OpenAt at "+show(p, n), show(impl.OpenAt(p, sharesAt([]int64{1}, []int64{1}), n)), 0, impl.ErrRange)
			expect(t, "OpenAt of nothing", show(impl.OpenAt(p, nil, n)), 0, impl.ErrRange)
			expect(t, "WeightsFor at "+show(p, n), show(impl.WeightsFor(p, []int64{1}, n)), []int64{}, impl.ErrRange)
			expect(t, "WeightsFor nothing", show(impl.WeightsFor(p, nil, n)), []int64{}, impl.ErrRange)
		}
		for _, points := range brokenPoints(p) {
			expect(t, "DealShares at "+show(p, points), show(impl.DealShares(p, []int64{1}, points)), []impl.Share{}, impl.ErrRange)
			expect(t, "DealShares at "+show(p, points), show(impl.DealShares(p, nil, points)), []impl.Share{}, impl.ErrRange)
			expect(t, "WeightsFor "+show(p, points), show(impl.WeightsFor(p, points, 0)), []int64{}, impl.ErrRange)
		}
		for at := range p {
			expect(t, "OpenAt of nothing", show(impl.OpenAt(p, nil, at)), 0, impl.ErrState)
			expect(t, "WeightsFor nothing", show(impl.WeightsFor(p, []int64{}, at)), []int64{}, impl.ErrState)
		}
		for _, degree := range []int64{math.MinInt64, -100, -2, 7, 8, 100, math.MaxInt64} {
			for _, shares := range [][]impl.Share{nil, sharesAt([]int64{1}, []int64{1})} {
				expect(t, "LiesOn with the degree "+show(degree), show(impl.LiesOn(p, shares, degree)), false, impl.ErrRange)
				expect(t, "CountSecrets with the degree "+show(degree), show(impl.CountSecrets(p, shares, degree)), []int64{}, impl.ErrRange)
			}
		}
		expect(t, "CountSecrets with the degree -1", show(impl.CountSecrets(p, nil, -1)), []int64{}, impl.ErrRange)
		expect(t, "LiesOn with the degree 6", show(impl.LiesOn(p, sharesAt([]int64{1}, []int64{1}), 6)), true, impl.OK)
	}
}

// TestPromise9NumberOfShares has 10 shares, of which the 10 points below 11 are all, and 11.
func TestPromise9NumberOfShares(t *testing.T) {
	for _, p := range allPrimes() {
		for count := range 14 {
			points := countTo(int64(count) + 1)[1:]
			shares := sharesAt(points, repeat(int64(1), count))
			valid := count <= 10 && int64(count) < p
			expect(t, "ValidShares", show(p, count, impl.ValidShares(p, shares)), p, count, valid)
			_, dealt := impl.DealShares(p, []int64{1}, points)
			_, weighed := impl.WeightsFor(p, points, 0)
			_, through := impl.CurveThrough(p, shares)
			if !valid {
				expect(t, "codes for "+show(p, count), show(dealt, weighed, through), impl.ErrRange, impl.ErrRange, impl.ErrInvalid)
				continue
			}
			expect(t, "codes for "+show(p, count), show(dealt, weighed == impl.OK, through), impl.OK, count > 0, impl.OK)
		}
	}
	points := slices.Concat(countTo(10)[1:], []int64{30})
	expect(t, "ten points of 31", show(impl.CurveThrough(31, sharesAt(points, repeat(int64(1), 10)))), []int64{1}, impl.OK)
}
