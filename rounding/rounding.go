// Package rounding: the float64s next below and next above a sum, product, quotient or root (P3).
package rounding

import (
	"cmp"
	"math"
)

// exact is the number (lead + tail) * 2^exp. The lead is the float64 nearest
// to lead + tail; of the tail only the sign is asked.
type exact struct {
	lead, tail float64
	exp        int
}

// Add answers DOWN and UP of a + b.
func Add(a, b float64) (down, up float64) {
	sum := a + b
	switch {
	case math.IsNaN(sum): // of a NaN, and of two infinities that are not the same
		return all()
	case math.IsInf(a, 0) || math.IsInf(b, 0):
		return sum, sum
	}
	return sumOf(a, b).bounds()
}

// Mul answers DOWN and UP of a * b.
func Mul(a, b float64) (down, up float64) {
	switch {
	case math.IsNaN(a) || math.IsNaN(b):
		return all()
	case a == 0 || b == 0: // ahead of the infinities: 0 times one of them is 0
		return 0, 0
	case math.IsInf(a, 0) || math.IsInf(b, 0):
		return a * b, a * b
	}
	return productOf(a, b).bounds()
}

// Div answers DOWN and UP of a / b.
func Div(a, b float64) (down, up float64) {
	switch {
	case math.IsNaN(a) || math.IsNaN(b) || b == 0:
		return all()
	case math.IsInf(a, 0) && math.IsInf(b, 0):
		return all()
	case math.IsInf(b, 0):
		return 0, 0
	case math.IsInf(a, 0):
		return a / b, a / b
	}
	return quotientOf(a, b).bounds()
}

// Sqrt answers DOWN and UP of the root of a.
func Sqrt(a float64) (down, up float64) {
	switch {
	case math.IsNaN(a) || a < 0:
		return 0, math.Inf(1)
	case math.IsInf(a, 1):
		return a, a
	}
	return rootOf(a).bounds()
}

// all answers the bounds of a result that may be any number.
func all() (down, up float64) { return math.Inf(-1), math.Inf(1) }

// sumOf needs no scaling: what a sum of float64s loses is itself a float64.
// The greater one goes first, for only then is lead - a exact. Beyond MAX
// lead and tail are infinities of opposite signs, so that the tail still
// points from the lead to the sum.
func sumOf(a, b float64) exact {
	if math.Abs(a) < math.Abs(b) {
		a, b = b, a
	}
	lead := a + b
	return exact{lead: lead, tail: b - (lead - a)}
}

// productOf works on fractions from 1/2 to 1, since FMA gives all that the
// product loses only while that is not too small for a float64.
func productOf(a, b float64) exact {
	fa, ea := math.Frexp(a)
	fb, eb := math.Frexp(b)
	lead := fa * fb
	return exact{lead: lead, tail: math.FMA(fa, fb, -lead), exp: ea + eb}
}

// quotientOf works on fractions for the same reason as productOf.
func quotientOf(a, b float64) exact {
	fa, ea := math.Frexp(a)
	fb, eb := math.Frexp(b)
	lead := fa / fb
	rest := math.FMA(-lead, fb, fa)
	return exact{lead: lead, tail: rest / fb, exp: ea - eb}
}

// rootOf works on a fraction for the same reason as productOf. The exponent
// is made even, so that its half is whole.
func rootOf(a float64) exact {
	f, e := math.Frexp(a)
	if e%2 != 0 {
		f, e = 2*f, e-1
	}
	lead := math.Sqrt(f)
	return exact{lead: lead, tail: math.FMA(-lead, lead, f), exp: e / 2}
}

// bounds answers DOWN and UP of x.
func (x exact) bounds() (down, up float64) {
	near := math.Ldexp(x.lead, x.exp)
	side := x.side(near)
	down, up = near, near
	if side < 0 {
		down = math.Nextafter(near, math.Inf(-1))
	}
	if side > 0 {
		up = math.Nextafter(near, math.Inf(1))
	}
	return Plain(down), Plain(up)
}

// side tells whether x is below near (-1), the same (0) or above (1). Where
// Ldexp had to round the lead, it lost at least the lead's last bit, which
// outweighs the tail.
func (x exact) side(near float64) int {
	if side := cmp.Compare(x.lead, math.Ldexp(near, -x.exp)); side != 0 {
		return side
	}
	return cmp.Compare(x.tail, 0)
}

// Plain makes -0 to 0, since no answer is -0.
func Plain(v float64) float64 {
	if v == 0 {
		return 0
	}
	return v
}
