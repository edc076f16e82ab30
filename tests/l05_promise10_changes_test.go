package tests

import (
	"math"
	"slices"
	"testing"

	"loop.example/g01117/impl"
)

// someMasks returns curves of at most a degree that are 0 at 0.
func someMasks(draw func(int64) int64, p, count, degree int64) [][]int64 {
	masks := [][]int64{}
	for range count {
		masks = append(masks, withoutZeros(append([]int64{0}, someResidues(draw, p, draw(degree+1))...)))
	}
	return masks
}

func TestPromise10Refreshed(t *testing.T) {
	for _, p := range allPrimes() {
		draw := drawer(uint64(p) + 1020)
		for count := range mostShares(p) + 1 {
			for many := range int64(5) {
				degree := min(max(count-1, 0), 6)
				c, masks := somePolynomial(draw, p, count-1), someMasks(draw, p, many, degree)
				shares := sharesOn(p, c, somePoints(draw, p, count))
				wanted := slices.Clone(shares)
				for i, s := range wanted {
					for _, mask := range masks {
						s.Value += valueOn(p, mask, s.At)
					}
					wanted[i].Value = s.Value % p
				}
				fresh, code := impl.RefreshShares(p, shares, masks)
				expect(t, "RefreshShares of "+show(p, shares, masks), show(fresh, code), wanted, impl.OK)
				if count > 0 {
					expect(t, "the secret stays", show(impl.OpenAt(p, fresh, 0)), valueOn(p, c, 0), impl.OK)
				}
			}
			shares := sharesOn(p, []int64{1}, countTo(count + 1)[1:])
			expect(t, "no masks", show(impl.RefreshShares(p, shares, nil)), shares, impl.OK)
			expect(t, "masks that are 0", show(impl.RefreshShares(p, shares, [][]int64{nil, {}})), shares, impl.OK)
			expect(t, "as many masks as the prime", show(impl.RefreshShares(p, shares, repeat([]int64{0, 0, 1}, int(p)))), shares, impl.OK)
		}
	}
}

func TestPromise10RefreshErrors(t *testing.T) {
	none := []impl.Share{}
	for _, p := range allPrimes() {
		good := sharesOn(p, []int64{1}, countTo(mostShares(p) + 1)[1:])
		for _, shares := range [][]impl.Share{nil, good} {
			for _, c := range brokenCurves(p) {
				for _, masks := range [][][]int64{{c}, {nil, c}, {c, {0, 1}}, {{1}, c}, {c, {1}}} {
					expect(t, "RefreshShares by "+show(p, masks), show(impl.RefreshShares(p, shares, masks)), none, impl.ErrInvalid)
				}
			}
			for _, masks := range [][][]int64{{{1}}, {{p - 1, 1}}, {{0, 1}, {1, 0, 1}}, {{1}, {0, 1}}, {{1}, {p - 1}}, {repeat(int64(1), 7)}} {
				expect(t, "RefreshShares by "+show(p, masks), show(impl.RefreshShares(p, shares, masks)), none, impl.ErrState)
			}
		}
		for _, shares := range brokenShares(p) {
			for _, masks := range [][][]int64{nil, {{0, 1}}, {{1}}, {{0}}} {
				expect(t, "RefreshShares of "+show(p, shares), show(impl.RefreshShares(p, shares, masks)), none, impl.ErrInvalid)
			}
		}
	}
	for _, p := range notPrimes() {
		for _, masks := range [][][]int64{nil, {{0, 1}}, {{1}}, {{0}}} {
			expect(t, "RefreshShares", show(impl.RefreshShares(p, nil, masks)), none, impl.ErrInvalid)
			expect(t, "RefreshShares", show(impl.RefreshShares(p, sharesAt([]int64{1}, []int64{0}), masks)), none, impl.ErrInvalid)
		}
	}
}

func TestPromise10Multiplied(t *testing.T) {
	for _, p := range allPrimes() {
		draw := drawer(uint64(p) + 1030)
		for count := range mostShares(p) + 1 {
			for degree := int64(-1); degree < count; degree++ {
				a, b := somePolynomial(draw, p, degree), somePolynomial(draw, p, draw(max(count-degree, 1)))
				points := somePoints(draw, p, count)
				first, second, wanted := sharesOn(p, a, points), sharesOn(p, b, points), []int64{}
				for _, x := range points {
					wanted = append(wanted, valueOn(p, a, x)*valueOn(p, b, x)%p)
				}
				product, code := impl.MultiplyShares(p, first, second)
				expect(t, "MultiplyShares of "+show(p, first, second), show(product, code), sharesAt(points, wanted), impl.OK)
				if count > 0 && degree+int64(len(b)) <= count {
					expect(t, "the secret", show(impl.OpenAt(p, product, 0)), valueOn(p, a, 0)*valueOn(p, b, 0)%p, impl.OK)
				}
			}
		}
	}
	for _, a := range allShares(3) {
		for _, b := range allShares(3) {
			wanted, code := []impl.Share{}, impl.ErrState
			if slices.Equal(pointsOf(a), pointsOf(b)) {
				code = impl.OK
				for i, s := range a {
					wanted = append(wanted, impl.Share{At: s.At, Value: s.Value * b[i].Value % 3})
				}
			}
			expect(t, "MultiplyShares of "+show(a, b), show(impl.MultiplyShares(3, a, b)), wanted, code)
		}
	}
	expect(t, "nothing", show(impl.MultiplyShares(2, nil, []impl.Share{})), []impl.Share{}, impl.OK)
}

func TestPromise10MultiplyErrors(t *testing.T) {
	none := []impl.Share{}
	for _, p := range allPrimes() {
		good := sharesOn(p, []int64{1}, countTo(mostShares(p) + 1)[1:])
		for _, bad := range brokenShares(p) {
			for _, other := range [][]impl.Share{nil, good, bad} {
				expect(t, "MultiplyShares of "+show(p, bad, other), show(impl.MultiplyShares(p, bad, other)), none, impl.ErrInvalid)
				expect(t, "MultiplyShares of "+show(p, other, bad), show(impl.MultiplyShares(p, other, bad)), none, impl.ErrInvalid)
			}
		}
		for count := range len(good) {
			expect(t, "the last ones lack", show(impl.MultiplyShares(p, good, good[:count])), none, impl.ErrState)
			expect(t, "the first ones lack", show(impl.MultiplyShares(p, good[count+1:], good)), none, impl.ErrState)
		}
		if len(good) > 1 {
			expect(t, "as many at other points", show(impl.MultiplyShares(p, good[1:], good[:len(good)-1])), none, impl.ErrState)
		}
	}
	for _, p := range notPrimes() {
		expect(t, "MultiplyShares", show(impl.MultiplyShares(p, nil, nil)), none, impl.ErrInvalid)
		expect(t, "MultiplyShares", show(impl.MultiplyShares(p, nil, sharesAt([]int64{1}, []int64{0}))), none, impl.ErrInvalid)
	}
}

func sumOf(p int64, list []int64) int64 { return dot(p, list, repeat(int64(1), len(list))) }

// TestPromise10Enrolled checks the parts of each holder, and what all of them are together.
func TestPromise10Enrolled(t *testing.T) {
	for _, p := range allPrimes() {
		draw := drawer(uint64(p) + 1040)
		for count := int64(1); count <= mostShares(p); count++ {
			c := somePolynomial(draw, p, draw(count+1)-1)
			shares, masks := sharesOn(p, c, somePoints(draw, p, count)), [][]int64{}
			for range count {
				masks = append(masks, someResidues(draw, p, count-1))
			}
			for at := range p {
				parts, code := impl.EnrollParts(p, shares, at, masks)
				expect(t, "the number of parts", show(len(parts), code), count, impl.OK)
				for i, list := range parts {
					expect(t, "the first parts of "+show(p, shares, at, masks), show(len(list), list[:count-1], areRemainders(p, list)), count, masks[i], true)
					alone := slices.Clone(shares)
					for k := range alone {
						if k != i {
							alone[k].Value = 0
						}
					}
					expect(t, "all parts of one holder", show(sumOf(p, list)), interpolated(p, alone, at))
				}
				expect(t, "JoinEnrolled", show(impl.JoinEnrolled(p, parts)), valueOn(p, c, at), impl.OK)
			}
		}
	}
	expect(t, "one holder", show(impl.EnrollParts(5, sharesAt([]int64{2}, []int64{3}), 4, [][]int64{nil})), [][]int64{{3}}, impl.OK)
}

func TestPromise10EnrollErrors(t *testing.T) {
	none := [][]int64{}
	for _, p := range allPrimes() {
		for count := int64(0); count <= mostShares(p); count++ {
			shares := sharesOn(p, []int64{1}, countTo(count + 1)[1:])
			masks := func(lists, length int64) [][]int64 {
				result := [][]int64{}
				for range lists {
					result = append(result, make([]int64, length))
				}
				return result
			}
			for lists := range count + 3 {
				for length := range count + 3 {
					_, code := impl.EnrollParts(p, shares, 0, masks(lists, length))
					wanted := impl.ErrRange
					if count == 0 && lists == 0 {
						wanted = impl.ErrState
					} else if lists == count && length == count-1 {
						wanted = impl.OK
					}
					expect(t, "EnrollParts with "+show(p, count, lists, length), show(code), wanted)
				}
			}
			for _, n := range notResidues(p) {
				expect(t, "at no residue", show(impl.EnrollParts(p, shares, n, masks(count, max(count-1, 0)))), none, impl.ErrRange)
				for i := range count * (count - 1) {
					bad := masks(count, count-1)
					bad[i%count][i/count] = n
					expect(t, "a mask that is no residue", show(impl.EnrollParts(p, shares, 0, bad)), none, impl.ErrRange)
				}
			}
			for i := range count {
				bad := masks(count, count-1)
				bad[i] = append(bad[i], 0)
				expect(t, "a mask more", show(impl.EnrollParts(p, shares, 0, bad)), none, impl.ErrRange)
				if count > 1 {
					bad[i] = bad[i][:count-2]
					expect(t, "a mask less", show(impl.EnrollParts(p, shares, 0, bad)), none, impl.ErrRange)
				}
			}
		}
		for _, shares := range brokenShares(p) {
			for _, at := range []int64{0, p} {
				expect(t, "EnrollParts of "+show(p, shares), show(impl.EnrollParts(p, shares, at, [][]int64{nil})), none, impl.ErrInvalid)
			}
		}
	}
	for _, p := range notPrimes() {
		expect(t, "EnrollParts", show(impl.EnrollParts(p, nil, 0, nil)), none, impl.ErrInvalid)
		expect(t, "EnrollParts", show(impl.EnrollParts(p, sharesAt([]int64{1}, []int64{0}), -1, nil)), none, impl.ErrInvalid)
	}
}

func TestPromise10Joined(t *testing.T) {
	for _, p := range allPrimes() {
		draw := drawer(uint64(p) + 1050)
		for count := range int64(13) {
			parts, sum := [][]int64{}, int64(0)
			for range count {
				parts = append(parts, someResidues(draw, p, count))
				sum += sumOf(p, parts[len(parts)-1])
			}
			if count > 10 {
				expect(t, "too many lists", show(impl.JoinEnrolled(p, parts)), 0, impl.ErrRange)
				continue
			}
			expect(t, "JoinEnrolled of "+show(p, parts), show(impl.JoinEnrolled(p, parts)), sum%p, impl.OK)
			for i := range parts {
				for _, n := range notResidues(p) {
					old := parts[i][len(parts)-1-i]
					parts[i][len(parts)-1-i] = n
					expect(t, "no residue", show(impl.JoinEnrolled(p, parts)), 0, impl.ErrRange)
					parts[i][len(parts)-1-i] = old
				}
				old := parts[i]
				parts[i] = old[1:]
				expect(t, "a part less", show(impl.JoinEnrolled(p, parts)), 0, impl.ErrRange)
				parts[i] = append(slices.Clone(old), 0)
				expect(t, "a part more", show(impl.JoinEnrolled(p, parts)), 0, impl.ErrRange)
				parts[i] = old
			}
			if count > 0 {
				expect(t, "a list more", show(impl.JoinEnrolled(p, append(slices.Clone(parts), parts[0]))), 0, impl.ErrRange)
			}
			if count > 1 {
				expect(t, "a list less", show(impl.JoinEnrolled(p, parts[1:])), 0, impl.ErrRange)
			}
		}
		expect(t, "the greatest parts", show(impl.JoinEnrolled(p, repeat(repeat(p-1, 10), 10))), 100*(p-1)%p, impl.OK)
		expect(t, "nothing", show(impl.JoinEnrolled(p, nil)), 0, impl.OK)
		expect(t, "one empty list", show(impl.JoinEnrolled(p, [][]int64{nil})), 0, impl.ErrRange)
	}
	for _, p := range notPrimes() {
		for _, parts := range [][][]int64{nil, {{0}}, {{0, 0}}, {{-1}}, repeat(make([]int64, 11), 11)} {
			expect(t, "JoinEnrolled", show(p, show(impl.JoinEnrolled(p, parts))), p, show(0, impl.ErrInvalid))
		}
	}
}

// TestPromise10Reshared gives each holder a curve of its own.
func TestPromise10Reshared(t *testing.T) {
	for _, p := range allPrimes() {
		draw := drawer(uint64(p) + 1060)
		for count := int64(1); count <= mostShares(p); count++ {
			for degree := range int64(7) {
				c := somePolynomial(draw, p, draw(count+1)-1)
				shares, points := sharesOn(p, c, somePoints(draw, p, count)), somePoints(draw, p, draw(mostShares(p)+1))
				curves, wanted := [][]int64{}, []int64{}
				for _, s := range shares {
					curves = append(curves, withoutZeros(append([]int64{s.Value}, someResidues(draw, p, draw(degree+1))...)))
				}
				for _, x := range points {
					dealt := slices.Clone(shares)
					for i := range dealt {
						dealt[i].Value = valueOn(p, curves[i], x)
					}
					wanted = append(wanted, interpolated(p, dealt, 0))
				}
				next, code := impl.ReshareTo(p, shares, curves, points)
				expect(t, "ReshareTo of "+show(p, shares, curves, points), show(next, code), sharesAt(points, wanted), impl.OK)
				expect(t, "the new degree", show(impl.LiesOn(p, next, degree)), true, impl.OK)
				if int64(len(points)) > degree {
					expect(t, "the secret stays", show(impl.OpenAt(p, next, 0)), valueOn(p, c, 0), impl.OK)
				}
			}
		}
		most := countTo(mostShares(p) + 1)[1:]
		expect(t, "values of 0", show(impl.ReshareTo(p, sharesOn(p, nil, most), repeat([]int64{}, len(most)), most)), sharesOn(p, nil, most), impl.OK)
		expect(t, "no new holders", show(impl.ReshareTo(p, sharesAt([]int64{1}, []int64{1}), [][]int64{{1}}, nil)), []impl.Share{}, impl.OK)
	}
}

func TestPromise10ReshareErrors(t *testing.T) {
	none := []impl.Share{}
	check := func(what string, p int64, shares []impl.Share, curves [][]int64, points []int64, code int64) {
		t.Helper()
		expect(t, what+" "+show(p, shares, curves, points), show(impl.ReshareTo(p, shares, curves, points)), none, code)
	}
	for _, p := range allPrimes() {
		one, good := sharesAt([]int64{1}, []int64{1}), sharesOn(p, []int64{1}, countTo(mostShares(p) + 1)[1:])
		fit := repeat([]int64{1}, len(good))
		for _, shares := range brokenShares(p) {
			for _, points := range [][]int64{nil, {1}, {0}} {
				check("broken shares", p, shares, nil, points, impl.ErrInvalid)
				check("broken shares", p, shares, repeat([]int64{1}, len(shares)), points, impl.ErrInvalid)
			}
		}
		for _, c := range brokenCurves(p) {
			for _, points := range [][]int64{nil, {1}, {0}} {
				check("a broken curve", p, one, [][]int64{c}, points, impl.ErrInvalid)
				check("a broken curve behind another one", p, one, [][]int64{{1}, c}, points, impl.ErrInvalid)
				check("a broken curve, and no shares", p, nil, [][]int64{c}, points, impl.ErrInvalid)
				check("a broken curve, and one with another secret", p, good, append(repeat([]int64{}, len(good)-1), c), points, impl.ErrInvalid)
			}
		}
		for _, points := range brokenPoints(p) {
			check("broken points", p, good, fit, points, impl.ErrRange)
			check("broken points, and another secret", p, one, [][]int64{nil}, points, impl.ErrRange)
			check("broken points, and no shares", p, nil, nil, points, impl.ErrRange)
		}
		check("a curve less", p, good, fit[1:], []int64{1}, impl.ErrRange)
		check("a curve more", p, good, append(fit, []int64{1}), []int64{1}, impl.ErrRange)
		check("a curve more, and another secret", p, one, [][]int64{nil, nil}, nil, impl.ErrRange)
		check("a curve without shares", p, nil, [][]int64{{1}}, []int64{1}, impl.ErrRange)
		check("no shares", p, nil, nil, nil, impl.ErrState)
		check("no shares", p, nil, nil, []int64{1}, impl.ErrState)
		for i := range good {
			for _, c := range [][]int64{nil, {0, 1}, {0, 0, 0, 0, 0, 0, 1}, {2 % p, 1}} {
				curves := slices.Clone(fit)
				curves[i] = c
				check("another secret", p, good, curves, []int64{1}, impl.ErrState)
				check("another secret", p, good, curves, nil, impl.ErrState)
			}
		}
		check("not 0 at 0", p, sharesAt([]int64{1}, []int64{0}), [][]int64{{1}}, []int64{1}, impl.ErrState)
	}
	for _, p := range notPrimes() {
		check("no prime", p, nil, nil, nil, impl.ErrInvalid)
		check("no prime", p, sharesAt([]int64{1}, []int64{0}), [][]int64{nil}, []int64{0}, impl.ErrInvalid)
	}
}

// checkPacked checks a curve for secrets and masks, and takes the secrets out again.
func checkPacked(t *testing.T, draw func(int64) int64, p int64, secrets, masks []int64) {
	t.Helper()
	c, code := impl.PackSecrets(p, secrets, masks)
	places := []int64{}
	for i := range secrets {
		places = append(places, p-1-int64(i))
	}
	what := "PackSecrets of " + show(p, secrets, masks)
	expect(t, what, show(code, isCurve(p, c), len(c) <= len(secrets)+len(masks)), impl.OK, true, true)
	expect(t, what, show(valuesOn(p, c, places), valuesOn(p, c, countTo(int64(len(masks)) + 1)[1:])), secrets, masks)
	few := max(int64(len(c)), 1)
	if few > mostShares(p) {
		return
	}
	shares, code := impl.DealShares(p, c, somePoints(draw, p, few+draw(mostShares(p)-few+1)))
	expect(t, "DealShares", show(code), impl.OK)
	expect(t, "UnpackSecrets of "+show(p, shares), show(impl.UnpackSecrets(p, shares, int64(len(secrets)))), secrets, impl.OK)
}

func TestPromise10Packed(t *testing.T) {
	for _, p := range allPrimes() {
		draw := drawer(uint64(p) + 1070)
		most := min(p-1, 7)
		for count := range most + 1 {
			for masks := range most - count + 1 {
				if powerOf(p, count+masks) <= 700 {
					for _, list := range allLists(p, int(count+masks)) {
						checkPacked(t, draw, p, list[:count], list[count:])
					}
					continue
				}
				for range 8 {
					checkPacked(t, draw, p, someResidues(draw, p, count), someResidues(draw, p, masks))
				}
			}
		}
		for count := range most + 1 {
			c, values := somePolynomial(draw, p, draw(mostShares(p)+1)-1), []int64{}
			for i := range count {
				values = append(values, valueOn(p, c, p-1-i))
			}
			shares := sharesOn(p, c, countTo(mostShares(p) + 1)[1:])
			expect(t, "UnpackSecrets of "+show(p, shares), show(impl.UnpackSecrets(p, shares, count)), values, impl.OK)
		}
	}
	expect(t, "nothing", show(impl.PackSecrets(2, nil, nil)), []int64{}, impl.OK)
	expect(t, "one secret, the prime 2", show(impl.PackSecrets(2, []int64{1}, nil)), []int64{1}, impl.OK)
	expect(t, "one mask, the prime 2", show(impl.PackSecrets(2, nil, []int64{1})), []int64{1}, impl.OK)
}

func TestPromise10PackLimits(t *testing.T) {
	none := []int64{}
	for _, p := range allPrimes() {
		for count := range int64(10) {
			for masks := range int64(10) {
				code := impl.OK
				if count+masks > 7 {
					code = impl.ErrRange
				} else if count+masks > p-1 {
					code = impl.ErrState
				}
				c, got := impl.PackSecrets(p, repeat(p-1, int(count)), repeat(p-1, int(masks)))
				expect(t, "PackSecrets of "+show(p, count, masks), show(got), code)
				if code != impl.OK {
					expect(t, "no curve", show(c), none)
				}
			}
		}
		for _, n := range notResidues(p) {
			for count := range 9 {
				list := append(make([]int64, count), n)
				for _, good := range [][]int64{nil, {1}, repeat(int64(1), 7)} {
					expect(t, "a secret that is none", show(impl.PackSecrets(p, list, good)), none, impl.ErrRange)
					expect(t, "a mask that is none", show(impl.PackSecrets(p, good, list)), none, impl.ErrRange)
				}
			}
		}
		shares := sharesAt([]int64{1}, []int64{1})
		for _, count := range []int64{math.MinInt64, -2, -1, 0, 1, 2, 3, 4, 5, 6, 7, 8, 9, 31, 1 << 32, math.MaxInt64} {
			code, secrets := impl.ErrRange, none
			if count >= 0 && count <= 7 {
				code = impl.ErrState
				expect(t, "no shares", show(impl.UnpackSecrets(p, nil, count)), none, impl.ErrState)
			} else {
				expect(t, "no shares", show(impl.UnpackSecrets(p, nil, count)), none, impl.ErrRange)
			}
			if code == impl.ErrState && count < p {
				code, secrets = impl.OK, repeat(int64(1), int(count))
			}
			expect(t, "UnpackSecrets of "+show(p, count), show(impl.UnpackSecrets(p, shares, count)), secrets, code)
			for _, bad := range brokenShares(p) {
				expect(t, "broken shares", show(impl.UnpackSecrets(p, bad, count)), none, impl.ErrInvalid)
			}
		}
	}
	for _, p := range notPrimes() {
		for _, list := range [][]int64{nil, {0}, {-1}, make([]int64, 8)} {
			expect(t, "PackSecrets", show(impl.PackSecrets(p, list, nil)), none, impl.ErrInvalid)
			expect(t, "PackSecrets", show(impl.PackSecrets(p, nil, list)), none, impl.ErrInvalid)
		}
		for _, count := range []int64{-1, 0, 1, 8} {
			expect(t, "UnpackSecrets", show(impl.UnpackSecrets(p, nil, count)), none, impl.ErrInvalid)
			expect(t, "UnpackSecrets", show(impl.UnpackSecrets(p, sharesAt([]int64{1}, []int64{0}), count)), none, impl.ErrInvalid)
		}
	}
}
