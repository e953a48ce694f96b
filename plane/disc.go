package plane

import (
	"math"

	"intervals/api"
	"intervals/rounding"
)

// NoDisc is the one disc without numbers among answers.
func NoDisc() api.Disc { return api.Disc{Rad: -1} }

// AllDisc is the one disc of all numbers among answers.
func AllDisc() api.Disc { return api.Disc{Rad: math.Inf(1)} }

// hasAll tells whether x has all numbers, wherever its middle is said to be.
func hasAll(x api.Disc) bool { return math.IsInf(x.Rad, 1) }

// hasNone tells whether x has no number.
func hasNone(x api.Disc) bool {
	if !(x.Rad >= 0) { // so that NaN is met too
		return true
	}
	return !hasAll(x) && !(isNumber(real(x.Mid)) && isNumber(imag(x.Mid)))
}

func isNumber(v float64) bool { return !math.IsNaN(v) && !math.IsInf(v, 0) }

// DiscAdd has all sums.
func DiscAdd(x, y api.Disc) api.Disc { return combine(x, y, BoxAdd, radOfSums) }

// DiscSub has all differences.
func DiscSub(x, y api.Disc) api.Disc { return combine(x, y, BoxSub, radOfSums) }

// DiscMul has all products.
func DiscMul(x, y api.Disc) api.Disc { return combine(x, y, BoxMul, radOfProducts) }

// combine has what an operation comes to: mids is the operation over boxes,
// which says where the middle lies, and rads how far from there the rest is.
func combine(x, y api.Disc, mids func(x, y api.Box) api.Box, rads func(x, y api.Disc) float64) api.Disc {
	switch {
	case hasNone(x) || hasNone(y):
		return NoDisc()
	case hasAll(x) || hasAll(y):
		return AllDisc()
	}
	return around(mids(point(x.Mid), point(y.Mid)), rads(x, y))
}

// radOfSums is how far a sum, or a difference, is from that of the middles.
func radOfSums(x, y api.Disc) float64 { return addUp(x.Rad, y.Rad) }

// radOfProducts is how far a product is from that of the middles.
func radOfProducts(x, y api.Disc) float64 {
	ofY := mulUp(length(real(x.Mid), imag(x.Mid)), y.Rad)
	ofX := mulUp(length(real(y.Mid), imag(y.Mid)), x.Rad)
	return addUp(addUp(ofY, ofX), mulUp(x.Rad, y.Rad))
}

// DiscConj has all conjugates.
func DiscConj(x api.Disc) api.Disc {
	switch {
	case hasNone(x):
		return NoDisc()
	case hasAll(x):
		return AllDisc()
	}
	mid := complex(rounding.Plain(real(x.Mid)), 0-imag(x.Mid)) // not -imag: that makes -0 of 0
	return api.Disc{Mid: mid, Rad: rounding.Plain(x.Rad)}
}

// ToBox has the numbers of x.
func ToBox(x api.Disc) api.Box {
	switch {
	case hasNone(x):
		return NoBox()
	case hasAll(x):
		return AllBox()
	}
	return BoxAdd(point(x.Mid), square(x.Rad))
}

// ToDisc has the numbers of x.
func ToDisc(x api.Box) api.Disc {
	if x.Re.None() || x.Im.None() {
		return NoDisc()
	}
	return around(x, 0)
}

// around has what is no farther than rad from a number of x, which has some.
// How far x reaches is taken from the middle as it was rounded, so that the
// rounding loses nothing.
func around(x api.Box, rad float64) api.Disc {
	if endless(x.Re) || endless(x.Im) {
		return AllDisc()
	}
	re, im := middle(x.Re), middle(x.Im)
	rad = addUp(length(reach(x.Re, re), reach(x.Im, im)), rad)
	if math.IsInf(rad, 1) {
		return AllDisc()
	}
	return api.Disc{Mid: complex(re, im), Rad: rad}
}

// middle is a float64 about the middle of x. It adds ahead of halving, since
// half of a least number may be none, but not where the sum is beyond MAX.
func middle(x api.Interval) float64 {
	mid := (x.Lo + x.Hi) / 2
	if math.IsInf(mid, 0) {
		mid = x.Lo/2 + x.Hi/2
	}
	return rounding.Plain(mid)
}

// reach is how far a number of x may be from mid.
func reach(x api.Interval, mid float64) float64 {
	return max(addUp(x.Hi, -mid), addUp(mid, -x.Lo))
}

// length is at least the root of a * a + b * b, and hardly more. Where the
// squares would be too great or too small for float64s, it works on a and b
// times a power of 2.
func length(a, b float64) float64 {
	a, b = math.Abs(a), math.Abs(b)
	if a == 0 || b == 0 {
		return a + b
	}
	scale := 1.0
	switch longer := max(a, b); {
	case longer > 0x1p+500:
		scale = 0x1p-600
	case longer < 0x1p-400:
		scale = 0x1p+600
	}
	a, b = mulUp(a, scale), mulUp(b, scale)
	return mulUp(sqrtUp(addUp(mulUp(a, a), mulUp(b, b))), 1/scale)
}

func addUp(a, b float64) float64 {
	_, up := rounding.Add(a, b)
	return up
}

func mulUp(a, b float64) float64 {
	_, up := rounding.Mul(a, b)
	return up
}

func sqrtUp(a float64) float64 {
	_, up := rounding.Sqrt(a)
	return up
}
