// Package intervals: sets of numbers that hold what they must: see DOC.md.
package intervals

import (
	"intervals/api"
	"intervals/line"
	"intervals/plane"
	"intervals/programs"
	"intervals/rounding"
)

// AddDown is the greatest float64 that is not above a + b (P3).
func AddDown(a, b float64) float64 {
	down, _ := rounding.Add(a, b)
	return down
}

// AddUp is the least float64 that is not below a + b (P3).
func AddUp(a, b float64) float64 {
	_, up := rounding.Add(a, b)
	return up
}

// MulDown is the greatest float64 that is not above a * b (P3).
func MulDown(a, b float64) float64 {
	down, _ := rounding.Mul(a, b)
	return down
}

// MulUp is the least float64 that is not below a * b (P3).
func MulUp(a, b float64) float64 {
	_, up := rounding.Mul(a, b)
	return up
}

// DivDown is the greatest float64 that is not above a / b (P3).
func DivDown(a, b float64) float64 {
	down, _ := rounding.Div(a, b)
	return down
}

// DivUp is the least float64 that is not below a / b (P3).
func DivUp(a, b float64) float64 {
	_, up := rounding.Div(a, b)
	return up
}

// SqrtDown is the greatest float64 that is not above the root of a (P3).
func SqrtDown(a float64) float64 {
	down, _ := rounding.Sqrt(a)
	return down
}

// SqrtUp is the least float64 that is not below the root of a (P3).
func SqrtUp(a float64) float64 {
	_, up := rounding.Sqrt(a)
	return up
}

// Add holds all a + b (P4).
func Add(x, y api.Interval) api.Interval { return line.Add(x, y) }

// Sub holds all a - b (P4).
func Sub(x, y api.Interval) api.Interval { return line.Sub(x, y) }

// Mul holds all a * b (P4).
func Mul(x, y api.Interval) api.Interval { return line.Mul(x, y) }

// Div holds all a / b (P4).
func Div(x, y api.Interval) api.Interval { return line.Div(x, y) }

// Sqr holds all a * a (P4).
func Sqr(x api.Interval) api.Interval { return line.Sqr(x) }

// Sqrt holds all roots (P4).
func Sqrt(x api.Interval) api.Interval { return line.Sqrt(x) }

// Meet holds what is in both (P4).
func Meet(x, y api.Interval) api.Interval { return line.Meet(x, y) }

// Hull holds what is in either (P4).
func Hull(x, y api.Interval) api.Interval { return line.Hull(x, y) }

// BoxAdd holds all sums (P6).
func BoxAdd(x, y api.Box) api.Box { return plane.BoxAdd(x, y) }

// BoxSub holds all differences (P6).
func BoxSub(x, y api.Box) api.Box { return plane.BoxSub(x, y) }

// BoxMul holds all products (P6).
func BoxMul(x, y api.Box) api.Box { return plane.BoxMul(x, y) }

// DiscAdd holds all sums (P7).
func DiscAdd(x, y api.Disc) api.Disc { return plane.DiscAdd(x, y) }

// DiscSub holds all differences (P7).
func DiscSub(x, y api.Disc) api.Disc { return plane.DiscSub(x, y) }

// DiscMul holds all products (P7).
func DiscMul(x, y api.Disc) api.Disc { return plane.DiscMul(x, y) }

// ToBox holds the disc (P8).
func ToBox(x api.Disc) api.Box { return plane.ToBox(x) }

// ToDisc holds the box (P8).
func ToDisc(x api.Box) api.Disc { return plane.ToDisc(x) }

// Eval runs a program over sets (P9 to P11).
func Eval(program string, boxes []api.Box, discs []api.Disc, p api.Policy) (api.Value, error) {
	return programs.Eval(program, boxes, discs, p)
}
