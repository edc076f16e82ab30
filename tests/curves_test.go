package tests

import (
	"math"
	"math/bits"
	"slices"

	"loop.example/g01117/impl"
)

// The functions of this file say of curves and shares, from the words of the document, what the program is to return.

// valueOn returns the value of a polynomial.
func valueOn(p int64, c []int64, x int64) int64 {
	sum, power := int64(0), int64(1)
	for _, coefficient := range c {
		sum += coefficient * power
		power = power * x % p
	}
	return sum % p
}

// valuesOn returns the values at some points.
func valuesOn(p int64, c, points []int64) []int64 {
	values := []int64{}
	for _, x := range points {
		values = append(values, valueOn(p, c, x))
	}
	return values
}

// withoutZeros returns coefficients without zeros at the end.
func withoutZeros(c []int64) []int64 {
	for len(c) > 0 && c[len(c)-1] == 0 {
		c = c[:len(c)-1]
	}
	return c
}

func isCurve(p int64, c []int64) bool {
	return slices.Contains(allPrimes(), p) && len(c) <= 7 && areRemainders(p, c) && len(withoutZeros(c)) == len(c)
}

func arePoints(p int64, points []int64) bool {
	return slices.Contains(allPrimes(), p) && len(points) <= 10 && areRemainders(p, points) && !slices.Contains(points, 0) &&
		slices.Equal(points, slices.Compact(slices.Sorted(slices.Values(points))))
}

func areShares(p int64, shares []impl.Share) bool {
	return arePoints(p, pointsOf(shares)) && areRemainders(p, valuesOf(shares))
}

func pointsOf(shares []impl.Share) []int64 {
	points := []int64{}
	for _, s := range shares {
		points = append(points, s.At)
	}
	return points
}

func valuesOf(shares []impl.Share) []int64 {
	values := []int64{}
	for _, s := range shares {
		values = append(values, s.Value)
	}
	return values
}

func sharesAt(points, values []int64) []impl.Share {
	shares := []impl.Share{}
	for i, x := range points {
		shares = append(shares, impl.Share{At: x, Value: values[i]})
	}
	return shares
}

func sharesOn(p int64, c, points []int64) []impl.Share {
	return sharesAt(points, valuesOn(p, c, points))
}

// sharesHeld returns the shares whose indices are in a mask.
func sharesHeld(shares []impl.Share, mask int) []impl.Share {
	held := []impl.Share{}
	for _, i := range members(mask) {
		held = append(held, shares[i])
	}
	return held
}

// missing returns the indices of the shares that do not lie on a polynomial.
func missing(p int64, c []int64, shares []impl.Share) []int64 {
	indices := []int64{}
	for i, s := range shares {
		if valueOn(p, c, s.At) != s.Value {
			indices = append(indices, int64(i))
		}
	}
	return indices
}

// lieTogether reports whether some polynomial of at most a degree has the values of all shares: then they are a sum of multiples of its powers.
func lieTogether(p int64, shares []impl.Share, degree int64) bool {
	var powers [][]int64
	for k := range degree + 1 {
		powers = append(powers, valuesOn(p, unit(k+1, k), pointsOf(shares)))
	}
	span, _ := spanOf(p, powers)
	return span.has(valuesOf(shares))
}

// interpolated returns the value at a residue of the polynomial through shares, as Lagrange wrote it.
func interpolated(p int64, shares []impl.Share, at int64) int64 {
	sum := int64(0)
	for i, s := range shares {
		product := s.Value
		for k, other := range shares {
			if k != i {
				product = product * (at - other.At + p) % p * inverseByTrial(p, (s.At-other.At+p)%p) % p
			}
		}
		sum += product
	}
	return sum % p
}

// masksOf returns the masks of all choices of so many of some shares.
func masksOf(shares, chosen int) []int {
	var masks []int
	for mask := range 1 << shares {
		if bits.OnesCount(uint(mask)) == chosen {
			masks = append(masks, mask)
		}
	}
	return masks
}

// powerOf returns a product of n factors.
func powerOf(p, n int64) int64 {
	product := int64(1)
	for range n {
		product *= p
	}
	return product
}

// allCurves returns all curves of at most a degree, in the order of NearCurves.
func allCurves(p, degree int64) [][]int64 {
	var curves [][]int64
	for length := range degree + 2 {
		for _, list := range allLists(p, int(length)) {
			if isCurve(p, list) {
				curves = append(curves, list)
			}
		}
	}
	return curves
}

// allPoints returns all lists of points of a prime, which is not greater than 11.
func allPoints(p int64) [][]int64 {
	var lists [][]int64
	for mask := range 1 << (p - 1) {
		lists = append(lists, members(mask<<1))
	}
	return lists
}

// allShares returns all shares of a small prime.
func allShares(p int64) [][]impl.Share {
	var lists [][]impl.Share
	for _, points := range allPoints(p) {
		for _, values := range allLists(p, len(points)) {
			lists = append(lists, sharesAt(points, values))
		}
	}
	return lists
}

// mostShares returns how many shares there can be.
func mostShares(p int64) int64 { return min(p-1, 10) }

// somePoints returns so many points.
func somePoints(draw func(int64) int64, p, count int64) []int64 {
	points := []int64{}
	for x := int64(1); x < p; x++ {
		if draw(p-x) < count-int64(len(points)) {
			points = append(points, x)
		}
	}
	return points
}

func someResidues(draw func(int64) int64, p int64, count int64) []int64 {
	list := []int64{}
	for range count {
		list = append(list, draw(p))
	}
	return list
}

// somePolynomial returns the coefficients of a polynomial of a degree, which may be greater than that of a curve.
func somePolynomial(draw func(int64) int64, p, degree int64) []int64 {
	if degree < 0 {
		return []int64{}
	}
	return append(someResidues(draw, p, degree), 1+draw(p-1))
}

// changedAt returns shares of which those in a mask have other values.
func changedAt(draw func(int64) int64, p int64, shares []impl.Share, mask int) []impl.Share {
	changed := slices.Clone(shares)
	for _, i := range members(mask) {
		changed[i].Value = (changed[i].Value + 1 + draw(p-1)) % p
	}
	return changed
}

// notPrimes are no primes of curves.
func notPrimes() []int64 {
	return []int64{math.MinInt64, -7, -2, -1, 0, 1, 4, 6, 8, 9, 10, 15, 21, 25, 27, 30, 32, 33, 35, 37, 41, 49, 1 << 32, 1<<32 + 7, math.MaxInt64}
}

// notResidues are no residues.
func notResidues(p int64) []int64 {
	return []int64{math.MinInt64, -p, -1, p, p + 1, 2 * p, 1<<32 + 1, math.MaxInt64}
}

// brokenCurves are no curves, each for a reason of its own.
func brokenCurves(p int64) [][]int64 {
	lists := [][]int64{{0}, {1, 0}, {0, 1, 0}, make([]int64, 7), repeat(int64(1), 8), append(make([]int64, 7), 1), append(make([]int64, 6), 1, 0), repeat(int64(1), 100)}
	for _, none := range notResidues(p) {
		lists = append(lists, []int64{none}, []int64{none, 1}, []int64{1, none}, []int64{1, none, 1}, append(repeat(int64(1), 6), none))
	}
	return lists
}

// brokenPoints are no points, each for a reason of its own.
func brokenPoints(p int64) [][]int64 {
	// 1 to 11 are one too many, or not all residues.
	lists := [][]int64{{0}, {0, 1}, {1, 0}, {1, 1}, countTo(12)[1:], countTo(p + 1)[1:], countTo(11), repeat(int64(1), 10), repeat(int64(1), 100)}
	if p > 2 {
		lists = append(lists, []int64{2, 1}, []int64{1, 2, 2}, []int64{0, 1, 2}, []int64{1, 2, 1}, []int64{2, 0})
	}
	for _, none := range notResidues(p) {
		lists = append(lists, []int64{none}, []int64{none, 1}, []int64{1, none})
	}
	return lists
}

// brokenShares are no shares, each for a reason of its own.
func brokenShares(p int64) [][]impl.Share {
	var lists [][]impl.Share
	for _, points := range brokenPoints(p) {
		lists = append(lists, sharesAt(points, make([]int64, len(points))))
	}
	for _, none := range notResidues(p) {
		lists = append(lists, sharesAt([]int64{1}, []int64{none}), sharesAt([]int64{0}, []int64{none}))
		if p > 3 {
			lists = append(lists, sharesAt([]int64{1, 2, 3}, []int64{0, none, 0}), sharesAt([]int64{1, 2, 3}, []int64{0, 0, none}))
		}
	}
	return lists
}
