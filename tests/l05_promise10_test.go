package tests

import (
	"cmp"
	"math"
	"slices"
	"testing"

	"loop.example/g01117/impl"
)

func TestPromise10Example(t *testing.T) {
	shares, _ := impl.DealShares(7, []int64{4, 2}, []int64{1, 2, 3, 4})
	shares[1].Value = 5
	expect(t, "FalseShares", show(impl.FalseShares(7, shares, 1, 1)), []int64{4, 2}, []int64{1}, impl.OK)
	expect(t, "NearCurves", show(impl.NearCurves(7, shares, 1, 3)), [][]int64{{4, 2}}, impl.OK)
}

// checkFalse checks what FalseShares returns, by trying all choices of the shares that are not false; it returns whether there is a curve.
// There is one at most, as the number of shares has to be great enough.
func checkFalse(t *testing.T, p int64, shares []impl.Share, degree, most int64) bool {
	t.Helper()
	what := "FalseShares of " + show(p, shares, degree, most)
	possible := slices.ContainsFunc(masksOf(len(shares), len(shares)-int(most)), func(mask int) bool {
		return lieTogether(p, sharesHeld(shares, mask), degree)
	})
	c, indices, code := impl.FalseShares(p, shares, degree, most)
	if !possible {
		expect(t, what, show(c, indices, code), []int64{}, []int64{}, impl.ErrNotFound)
		return false
	}
	if code != impl.OK || !isCurve(p, c) || int64(len(c)) > degree+1 || int64(len(indices)) > most || !slices.Equal(indices, missing(p, c, shares)) {
		t.Errorf("%s: %v and %v with the code %d", what, c, indices, code)
	}
	return true
}

// TestPromise10AllSmallShares picks the near curves and the false shares of all shares of the least primes from all curves.
func TestPromise10AllSmallShares(t *testing.T) {
	for p, greatest := range map[int64]int64{2: 6, 3: 6, 5: 3} {
		for degree := range greatest + 1 {
			curves := allCurves(p, degree)
			for _, shares := range allShares(p) {
				for agree := degree + 1; agree <= int64(len(shares))+1; agree++ {
					near := [][]int64{}
					for _, c := range curves {
						if int64(len(shares)-len(missing(p, c, shares))) >= agree {
							near = append(near, c)
						}
					}
					expect(t, "NearCurves of "+show(p, shares, degree, agree), show(impl.NearCurves(p, shares, degree, agree)), near, impl.OK)
				}
				for most := int64(0); degree+1+2*most <= int64(len(shares)); most++ {
					checkFalse(t, p, shares, degree, most)
				}
			}
		}
	}
}

// TestPromise10Mended changes as many shares as can be mended, fewer, and one more.
func TestPromise10Mended(t *testing.T) {
	lost, found := 0, 0
	for _, p := range allPrimes() {
		draw := drawer(uint64(p) + 1000)
		for degree := range int64(7) {
			for most := int64(0); degree+1+2*most <= mostShares(p); most++ {
				for count := degree + 1 + 2*most; count <= mostShares(p); count++ {
					c := withoutZeros(someResidues(draw, p, degree+1))
					shares := sharesOn(p, c, somePoints(draw, p, count))
					for lies := range most + 1 {
						mask := maskOf(somePoints(draw, count+1, lies)) >> 1
						changed := changedAt(draw, p, shares, mask)
						expect(t, "FalseShares of "+show(p, changed, degree, most), show(impl.FalseShares(p, changed, degree, most)), c, members(mask), impl.OK)
					}
					if checkFalse(t, p, changedAt(draw, p, shares, 1<<(most+1)-1), degree, most) {
						found++
					} else {
						lost++
					}
				}
			}
		}
	}
	if lost < 100 || found < 30 {
		t.Errorf("with one false share too many, %d without a curve and %d with one are too few", lost, found)
	}
}

// TestPromise10AllLies changes all choices of shares in all ways.
func TestPromise10AllLies(t *testing.T) {
	c, p := []int64{3, 0, 1}, int64(7)
	shares := sharesOn(p, c, []int64{1, 2, 4, 5, 6})
	for mask := range 1 << 5 {
		lies := members(mask)
		for _, by := range allLists(p-1, len(lies)) {
			changed := slices.Clone(shares)
			for k, i := range lies {
				changed[i].Value = (changed[i].Value + 1 + by[k]) % p
			}
			checkFalse(t, p, changed, 2, 0)
			if !checkFalse(t, p, changed, 2, 1) && len(lies) < 2 {
				t.Errorf("the curve of %v is not found", changed)
			}
		}
	}
}

// TestPromise10OneLieTooMany has so many false shares on one other curve that this one is found instead.
func TestPromise10OneLieTooMany(t *testing.T) {
	for _, p := range []int64{11, 13, 31} {
		for degree := range int64(7) {
			for most := int64(1); degree+1+2*most <= 10; most++ {
				// Both curves are 0 at the first degree points.
				other := []int64{1}
				for x := int64(1); x <= degree; x++ {
					longer := make([]int64, len(other)+1)
					for i, n := range other {
						longer[i] = (longer[i] + n*(p-x)) % p
						longer[i+1] = (longer[i+1] + n) % p
					}
					other = longer
				}
				shares := sharesOn(p, nil, countTo(degree + 2 + 2*most)[1:])
				last := []int64{}
				for i := degree; i < int64(len(shares)); i++ {
					if i <= degree+most {
						shares[i].Value = valueOn(p, other, shares[i].At)
					} else {
						last = append(last, i)
					}
				}
				expect(t, "the other curve", show(impl.FalseShares(p, shares, degree, most)), other, last, impl.OK)
				if most > 1 {
					expect(t, "neither curve", show(impl.FalseShares(p, shares, degree, most-1)), []int64{}, []int64{}, impl.ErrNotFound)
				}
				for i := degree; i < int64(len(shares)); i++ {
					shares[i].Value = 0
					if i <= degree+most-1 {
						shares[i].Value = valueOn(p, other, shares[i].At)
					}
				}
				expect(t, "one fewer", show(impl.FalseShares(p, shares, degree, most)), []int64{}, countTo(degree + most)[degree:], impl.OK)
			}
		}
	}
}

// TestPromise10FalseLimits has just enough shares for some false ones, and one fewer.
func TestPromise10FalseLimits(t *testing.T) {
	for _, p := range allPrimes() {
		for count := range mostShares(p) + 1 {
			shares := sharesOn(p, []int64{1}, countTo(count + 1)[1:])
			for degree := range int64(7) {
				for most := range int64(8) {
					if count >= degree+1+2*most {
						expect(t, "enough shares", show(impl.FalseShares(p, shares, degree, most)), []int64{1}, []int64{}, impl.OK)
					} else {
						expect(t, "too few shares", show(impl.FalseShares(p, shares, degree, most)), []int64{}, []int64{}, impl.ErrState)
					}
				}
				for _, most := range []int64{1 << 31, 1<<62 - 4, 1 << 62, 1<<62 + 1, 1<<63 - 5, math.MaxInt64} {
					expect(t, "far too few shares", show(impl.FalseShares(p, shares, degree, most)), []int64{}, []int64{}, impl.ErrState)
				}
				for _, most := range []int64{-1, -2, -1 << 62, math.MinInt64} {
					expect(t, "a negative number", show(impl.FalseShares(p, shares, degree, most)), []int64{}, []int64{}, impl.ErrRange)
				}
			}
			for _, degree := range []int64{-1, 7, 8, math.MinInt64, math.MaxInt64} {
				for _, n := range []int64{-1, 0, 1, 8, math.MaxInt64} {
					expect(t, "a degree that is none", show(impl.FalseShares(p, shares, degree, n)), []int64{}, []int64{}, impl.ErrRange)
					expect(t, "a degree that is none", show(impl.NearCurves(p, shares, degree, n)), [][]int64{}, impl.ErrRange)
				}
			}
		}
	}
}

// checkNear checks what NearCurves returns: each curve is near, and each choice of enough shares that lie together is on one.
func checkNear(t *testing.T, p int64, shares []impl.Share, degree, agree int64) {
	t.Helper()
	what := "NearCurves of " + show(p, shares, degree, agree)
	curves, code := impl.NearCurves(p, shares, degree, agree)
	on := map[int]bool{}
	for i, c := range curves {
		held := 1<<len(shares) - 1 - maskOf(missing(p, c, shares))
		on[held] = true
		if !isCurve(p, c) || int64(len(c)) > degree+1 || int64(len(members(held))) < agree {
			t.Errorf("%s: %v is no such curve", what, c)
		}
		if i > 0 && cmp.Or(cmp.Compare(len(curves[i-1]), len(c)), slices.Compare(curves[i-1], c)) >= 0 {
			t.Errorf("%s: %v comes before %v", what, curves[i-1], c)
		}
	}
	for _, mask := range masksOf(len(shares), int(agree)) {
		found := false
		for held := range on {
			found = found || held&mask == mask
		}
		if found != lieTogether(p, sharesHeld(shares, mask), degree) {
			t.Errorf("%s: a curve for the shares %v is found: %v", what, members(mask), found)
		}
	}
	expect(t, what, show(code), impl.OK)
}

func TestPromise10Near(t *testing.T) {
	for _, p := range allPrimes() {
		draw := drawer(uint64(p) + 1010)
		for degree := range int64(7) {
			for count := degree + 1; count <= mostShares(p); count++ {
				for agree := degree + 1; agree <= count; agree++ {
					points := somePoints(draw, p, count)
					checkNear(t, p, sharesAt(points, someResidues(draw, p, count)), degree, agree)
					shares := sharesOn(p, withoutZeros(someResidues(draw, p, degree+1)), points)
					checkNear(t, p, changedAt(draw, p, shares, 1<<min(draw(count-agree+1), count)-1), degree, agree)
				}
				if count < 10 {
					expect(t, "more than all shares", show(impl.NearCurves(p, sharesOn(p, nil, countTo(count + 1)[1:]), degree, count+1)), [][]int64{}, impl.OK)
				}
			}
		}
	}
}

// TestPromise10MostCurves has shares of a power of x, of which no more lie on a curve of a lesser degree than this one has coefficients.
// There are at most 252 curves with enough shares, so that MaxCurves is never passed.
func TestPromise10MostCurves(t *testing.T) {
	for _, p := range []int64{11, 13, 31} {
		for degree, many := range []int{10, 45, 120, 210, 252, 210, 120} {
			shares := sharesOn(p, unit(int64(degree+2), int64(degree+1)), countTo(11)[1:])
			curves, code := impl.NearCurves(p, shares, int64(degree), int64(degree+1))
			expect(t, "the number of curves", show(len(curves), code), many, impl.OK)
			checkNear(t, p, shares, int64(degree), int64(degree+1))
			expect(t, "one share more", show(impl.NearCurves(p, shares, int64(degree), int64(degree+2))), [][]int64{}, impl.OK)
		}
	}
}

// TestPromise10NearOrder has curves of several degrees, of which some with fewer coefficients are greater lists.
func TestPromise10NearOrder(t *testing.T) {
	expect(t, "lines", show(impl.NearCurves(5, sharesAt([]int64{1, 2, 3, 4}, []int64{0, 0, 1, 4}), 1, 2)), [][]int64{{}, {1, 2}, {2, 3}, {3, 1}}, impl.OK)
	expect(t, "lines", show(impl.NearCurves(5, sharesAt([]int64{1, 2, 3}, []int64{3, 3, 0}), 1, 2)), [][]int64{{3}, {2, 1}, {4, 2}}, impl.OK)
	expect(t, "values", show(impl.NearCurves(5, sharesAt([]int64{1, 2, 3, 4}, []int64{3, 0, 4, 3}), 0, 1)), [][]int64{{}, {3}, {4}}, impl.OK)
}

func TestPromise10NearRanges(t *testing.T) {
	for _, p := range allPrimes() {
		for _, shares := range [][]impl.Share{nil, sharesOn(p, []int64{1}, []int64{1}), sharesOn(p, nil, countTo(mostShares(p) + 1)[1:])} {
			for degree := range int64(7) {
				for agree := int64(-2); agree <= 13; agree++ {
					_, code := impl.NearCurves(p, shares, degree, agree)
					wanted := impl.OK
					if agree < degree+1 || agree > 10 {
						wanted = impl.ErrRange
					}
					expect(t, "NearCurves of "+show(p, shares, degree, agree), show(code), wanted)
				}
				for _, agree := range []int64{math.MinInt64, math.MaxInt64} {
					expect(t, "NearCurves", show(impl.NearCurves(p, shares, degree, agree)), [][]int64{}, impl.ErrRange)
				}
			}
		}
		for _, shares := range brokenShares(p) {
			for _, n := range []int64{-1, 0, 1, 7, 11} {
				expect(t, "NearCurves of "+show(shares), show(impl.NearCurves(p, shares, n, n+1)), [][]int64{}, impl.ErrInvalid)
				expect(t, "FalseShares of "+show(shares), show(impl.FalseShares(p, shares, n, n-1)), []int64{}, []int64{}, impl.ErrInvalid)
			}
		}
	}
	for _, p := range notPrimes() {
		expect(t, "NearCurves", show(impl.NearCurves(p, nil, 0, 1)), [][]int64{}, impl.ErrInvalid)
		expect(t, "NearCurves", show(impl.NearCurves(p, nil, -1, 0)), [][]int64{}, impl.ErrInvalid)
		expect(t, "FalseShares", show(impl.FalseShares(p, nil, 0, 0)), []int64{}, []int64{}, impl.ErrInvalid)
		expect(t, "FalseShares", show(impl.FalseShares(p, sharesAt([]int64{1}, []int64{0}), -1, -1)), []int64{}, []int64{}, impl.ErrInvalid)
	}
}
