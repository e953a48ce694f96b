package intervals_test

import (
	"math/big"
	"testing"

	"intervals/api"
	"intervals/intervals"
)

func boxOf(re, im iv) api.Box { return api.Box{Re: re, Im: im} }

func noBox() api.Box { return boxOf(empty, empty) }

func sameBox(x, y api.Box) bool { return sameInterval(x.Re, y.Re) && sameInterval(x.Im, y.Im) }

// cx is an exact complex number.
type cx struct{ re, im *big.Rat }

func (a cx) plus(b cx) cx {
	return cx{new(big.Rat).Add(a.re, b.re), new(big.Rat).Add(a.im, b.im)}
}

func (a cx) less(b cx) cx {
	return cx{new(big.Rat).Sub(a.re, b.re), new(big.Rat).Sub(a.im, b.im)}
}

func (a cx) times(b cx) cx {
	mul := func(p, q *big.Rat) *big.Rat { return new(big.Rat).Mul(p, q) }
	re := new(big.Rat).Sub(mul(a.re, b.re), mul(a.im, b.im))
	im := new(big.Rat).Add(mul(a.re, b.im), mul(a.im, b.re))
	return cx{re, im}
}

// boxCall is one call over boxes, with what P6 makes it of, and what it comes to at two numbers.
type boxCall struct {
	name  string
	do    func(x, y api.Box) api.Box
	parts func(x, y api.Box) (re, im iv)
	exact func(a, b cx) cx
}

func boxCalls() []boxCall {
	sums := func(x, y api.Box) (re, im iv) {
		return intervals.Add(x.Re, y.Re), intervals.Add(x.Im, y.Im)
	}
	differences := func(x, y api.Box) (re, im iv) {
		return intervals.Sub(x.Re, y.Re), intervals.Sub(x.Im, y.Im)
	}
	products := func(x, y api.Box) (re, im iv) {
		return intervals.Sub(intervals.Mul(x.Re, y.Re), intervals.Mul(x.Im, y.Im)),
			intervals.Add(intervals.Mul(x.Re, y.Im), intervals.Mul(x.Im, y.Re))
	}
	return []boxCall{
		{"BoxAdd", intervals.BoxAdd, sums, cx.plus},
		{"BoxSub", intervals.BoxSub, differences, cx.less},
		{"BoxMul", intervals.BoxMul, products, cx.times},
	}
}

// sides are intervals with numbers of all sorts, of which boxes are made.
func sides() []iv {
	return []iv{
		of(0, 0), of(neg0, 0), of(1, 2), of(0.1, 0.1), of(-3, 0.3), of(tiny, 2*tiny), of(-tiny, 0x1p-600),
		of(0x1p+600, top), of(-top, -top), of(-top, top), of(1, inf), of(-inf, neg0), of(-inf, inf),
	}
}

// boxesOf answers the boxes with each of these as one part, and each as the other.
func boxesOf(parts []iv) []api.Box {
	var all []api.Box
	for _, re := range parts {
		for _, im := range parts {
			all = append(all, boxOf(re, im))
		}
	}
	return all
}

func isNoBox(x api.Box) bool { return x.Re.None() || x.Im.None() }

// boxesWithout answers boxes without numbers: one part is, or both are.
func boxesWithout() []api.Box {
	all := boxesOf(withoutNumbers())
	for _, e := range withoutNumbers() {
		for _, x := range []iv{of(1, 2), of(0, 0), of(-inf, inf)} {
			all = append(all, boxOf(e, x), boxOf(x, e))
		}
	}
	return all
}

func TestP6ByParts(t *testing.T) {
	all := boxesOf(sides())
	for _, c := range boxCalls() {
		for _, x := range all {
			for _, y := range all {
				re, im := c.parts(x, y)
				if z := c.do(x, y); !sameBox(z, boxOf(re, im)) {
					t.Errorf("P6: %s(%x, %x) is %x, want %x, %x", c.name, x, y, z, re, im)
				}
			}
		}
	}
}

func TestP6Rows(t *testing.T) {
	for _, r := range []struct{ x, y, add, sub, mul api.Box }{
		{
			boxOf(of(1, 2), of(3, 4)), boxOf(of(5, 5), of(6, 6)),
			boxOf(of(6, 7), of(9, 10)), boxOf(of(-4, -3), of(-3, -2)), boxOf(of(-19, -8), of(21, 32)),
		},
		{
			boxOf(of(neg0, 0), of(0, neg0)), boxOf(of(-1, neg0), of(neg0, neg0)),
			boxOf(of(-1, 0), of(0, 0)), boxOf(of(0, 1), of(0, 0)), boxOf(of(0, 0), of(0, 0)),
		},
		{
			boxOf(of(top, top), of(tiny, tiny)), boxOf(of(top, inf), of(0.5, 0.5)),
			boxOf(of(top, inf), of(0.5, 0x1.0000000000001p-01)), boxOf(of(-inf, 0), of(-0.5, -0x1.fffffffffffffp-02)),
			boxOf(of(0x1.ffffffffffffep+1023, inf), of(0x1.fffffffffffffp+1022, inf)),
		},
		{
			boxOf(of(-inf, inf), of(0, 0)), boxOf(of(0, 0), of(0, 0)),
			boxOf(of(-inf, inf), of(0, 0)), boxOf(of(-inf, inf), of(0, 0)), boxOf(of(0, 0), of(0, 0)),
		},
	} {
		for k, want := range []api.Box{r.add, r.sub, r.mul} {
			c := boxCalls()[k]
			if z := c.do(r.x, r.y); !sameBox(z, want) {
				t.Errorf("P6: %s(%x, %x) is %x, want %x", c.name, r.x, r.y, z, want)
			}
		}
	}
}

// someOf answers numbers of a box: its corners where it has them, and such as lie far out or in the middle.
func someOf(x api.Box) []cx {
	var all []cx
	for _, re := range know(x.Re).numbers {
		for _, im := range know(x.Im).numbers {
			all = append(all, cx{re, im})
		}
	}
	return all
}

func inBox(x api.Box, a cx) bool { return has(x.Re, a.re) && has(x.Im, a.im) }

func checkBoxHas(t *testing.T, x, y api.Box) {
	t.Helper()
	for _, c := range boxCalls() {
		z := c.do(x, y)
		for _, a := range someOf(x) {
			for _, b := range someOf(y) {
				if !inBox(z, c.exact(a, b)) {
					t.Errorf("P6: %s(%x, %x) is %x: without that of %v and %v", c.name, x, y, z, a, b)
					return
				}
			}
		}
	}
}

// TestP6NothingIsLost holds boxes against exact numbers, not against the calls of which P6 makes them.
func TestP6NothingIsLost(t *testing.T) {
	parts := []iv{of(-3, 0.1), of(1, inf), of(tiny, top)}
	for _, x := range boxesOf(parts) {
		for _, y := range boxesOf(parts) {
			checkBoxHas(t, x, y)
		}
	}
	mixed := mixedIntervals(50)
	for k := 1; k < len(mixed); k++ {
		checkBoxHas(t, boxOf(mixed[k-1][0], mixed[k][0]), boxOf(mixed[k-1][1], mixed[k][1]))
	}
}

func TestP6WithoutNumbers(t *testing.T) {
	others := append(boxesOf(sides()), boxesWithout()...)
	for _, c := range boxCalls() {
		for _, e := range boxesWithout() {
			for _, x := range others {
				if z := c.do(e, x); !sameBox(z, noBox()) {
					t.Errorf("P6: %s(%x, %x) is %x, want none", c.name, e, x, z)
				}
				if z := c.do(x, e); !sameBox(z, noBox()) {
					t.Errorf("P6: %s(%x, %x) is %x, want none", c.name, x, e, z)
				}
			}
		}
	}
}
