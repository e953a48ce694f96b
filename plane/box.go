// Package plane: sets of complex numbers, held as boxes and as discs (P6 to P8, and the conjugates of P11).
package plane

import (
	"math"

	"intervals/api"
	"intervals/line"
)

// NoBox is the one box without numbers among answers.
func NoBox() api.Box { return api.Box{Re: line.Empty(), Im: line.Empty()} }

// AllBox is the box of all numbers.
func AllBox() api.Box { return api.Box{Re: line.All(), Im: line.All()} }

// BoxAdd has all sums.
func BoxAdd(x, y api.Box) api.Box {
	return boxOf(line.Add(x.Re, y.Re), line.Add(x.Im, y.Im))
}

// BoxSub has all differences.
func BoxSub(x, y api.Box) api.Box {
	return boxOf(line.Sub(x.Re, y.Re), line.Sub(x.Im, y.Im))
}

// BoxMul has all products.
func BoxMul(x, y api.Box) api.Box {
	re := line.Sub(line.Mul(x.Re, y.Re), line.Mul(x.Im, y.Im))
	im := line.Add(line.Mul(x.Re, y.Im), line.Mul(x.Im, y.Re))
	return boxOf(re, im)
}

// BoxConj has all conjugates.
func BoxConj(x api.Box) api.Box {
	return boxOf(line.Plain(x.Re), line.Plain(line.Neg(x.Im)))
}

// boxOf lays two parts together. One part without numbers leaves the box
// without any, and then the other one must not tell otherwise.
func boxOf(re, im api.Interval) api.Box {
	if re.None() || im.None() {
		return NoBox()
	}
	return api.Box{Re: re, Im: im}
}

// point is the box of one number.
func point(z complex128) api.Box {
	re, im := real(z), imag(z)
	return api.Box{Re: api.Interval{Lo: re, Hi: re}, Im: api.Interval{Lo: im, Hi: im}}
}

// square is the box of what is no farther than rad from 0 in each part.
func square(rad float64) api.Box {
	side := api.Interval{Lo: -rad, Hi: rad}
	return api.Box{Re: side, Im: side}
}

// endless tells whether x goes on for ever on some side.
func endless(x api.Interval) bool { return math.IsInf(x.Lo, 0) || math.IsInf(x.Hi, 0) }
