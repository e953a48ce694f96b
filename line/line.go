// Package line: the least intervals of the real line that have what an operation may come to (P4).
package line

import (
	"math"

	"intervals/api"
	"intervals/rounding"
)

// Empty is the one interval without numbers among answers.
func Empty() api.Interval { return api.Interval{Lo: math.Inf(1), Hi: math.Inf(-1)} }

// All is the interval of all numbers.
func All() api.Interval { return api.Interval{Lo: math.Inf(-1), Hi: math.Inf(1)} }

// Plain is the interval with the numbers of x in the form of an answer.
func Plain(x api.Interval) api.Interval {
	if x.None() {
		return Empty()
	}
	return api.Interval{Lo: rounding.Plain(x.Lo), Hi: rounding.Plain(x.Hi)}
}

// Neg has 0 - a for each a of x. It subtracts instead of turning the sign,
// since that would make a bound -0.
func Neg(x api.Interval) api.Interval { return api.Interval{Lo: 0 - x.Hi, Hi: 0 - x.Lo} }

// Add has all a + b.
func Add(x, y api.Interval) api.Interval {
	if x.None() || y.None() {
		return Empty()
	}
	lo, _ := rounding.Add(x.Lo, y.Lo)
	_, hi := rounding.Add(x.Hi, y.Hi)
	return api.Interval{Lo: lo, Hi: hi}
}

// Sub has all a - b.
func Sub(x, y api.Interval) api.Interval { return Add(x, Neg(y)) }

// Mul has all a * b.
func Mul(x, y api.Interval) api.Interval {
	if x.None() || y.None() {
		return Empty()
	}
	low := cover(corner(x.Lo, y.Lo), corner(x.Lo, y.Hi))
	high := cover(corner(x.Hi, y.Lo), corner(x.Hi, y.Hi))
	return cover(low, high)
}

// corner rounds the product of two bounds. An infinite bound beside 0 makes
// 0, as P3 has it: every number times 0 is 0, however great it is.
func corner(a, b float64) api.Interval {
	down, up := rounding.Mul(a, b)
	return api.Interval{Lo: down, Hi: up}
}

// cover reaches from the lesser Lo to the greater Hi. Unlike Hull it counts
// a pair of the same infinities, which a corner may be.
func cover(x, y api.Interval) api.Interval {
	return api.Interval{Lo: min(x.Lo, y.Lo), Hi: max(x.Hi, y.Hi)}
}

// Div has all a / b but for b = 0.
func Div(x, y api.Interval) api.Interval {
	switch {
	case x.None() || y.None() || isNought(y):
		return Empty()
	case isNought(x):
		return api.Interval{Lo: 0, Hi: 0}
	case y.Lo < 0 && y.Hi > 0: // b comes as near to 0 as one likes from both sides
		return All()
	case y.Lo < 0:
		return over(Neg(x), Neg(y))
	}
	return over(x, y)
}

// isNought tells whether 0 is the only number of x.
func isNought(x api.Interval) bool { return x.Lo == 0 && x.Hi == 0 }

// over divides by a y that has numbers above 0 and none below. The greatest
// quotient is the least one of the other sign turned about.
func over(x, y api.Interval) api.Interval {
	return api.Interval{Lo: leastOver(x.Lo, y), Hi: 0 - leastOver(-x.Hi, y)}
}

// leastOver rounds down what a / b comes to or comes near at the least. The
// bound of y is picked by the sign of a, so that no infinity is divided by
// another. An a below 0 over a bound that is 0 rounds down to -Inf, as it
// must: b is never 0, but comes as near to it as one likes.
func leastOver(a float64, y api.Interval) float64 {
	b := y.Lo
	if a >= 0 {
		b = y.Hi
	}
	down, _ := rounding.Div(a, b)
	return down
}

// Sqr has all a * a.
func Sqr(x api.Interval) api.Interval {
	s := sizes(x)
	return Mul(s, s)
}

// sizes has the absolute values of x. Mul takes two numbers that need not be
// the same one: only where none is below 0 does that come to no more than the
// squares do.
func sizes(x api.Interval) api.Interval {
	switch {
	case x.None() || x.Lo >= 0:
		return x
	case x.Hi <= 0:
		return Neg(x)
	}
	return api.Interval{Lo: 0, Hi: max(-x.Lo, x.Hi)}
}

// Sqrt has the roots of all a that are 0 or above.
func Sqrt(x api.Interval) api.Interval {
	x = Meet(x, api.Interval{Lo: 0, Hi: math.Inf(1)})
	if x.None() {
		return Empty()
	}
	lo, _ := rounding.Sqrt(x.Lo)
	_, hi := rounding.Sqrt(x.Hi)
	return api.Interval{Lo: lo, Hi: hi}
}

// Meet has what is in x and in y.
func Meet(x, y api.Interval) api.Interval {
	if x.None() || y.None() {
		return Empty()
	}
	return Plain(api.Interval{Lo: max(x.Lo, y.Lo), Hi: min(x.Hi, y.Hi)})
}

// Hull has what is in x or in y, and what lies between.
func Hull(x, y api.Interval) api.Interval {
	switch {
	case x.None():
		return Plain(y)
	case y.None():
		return Plain(x)
	}
	return Plain(cover(x, y))
}
