package intervals_test

import (
	"math"
	"math/big"
	"testing"

	"intervals/intervals"
)

const (
	top  = math.MaxFloat64
	tiny = math.SmallestNonzeroFloat64
)

var (
	inf  = math.Inf(1)
	nan  = math.NaN()
	neg0 = math.Copysign(0, -1)
)

// pair is the two calls of two arguments that round one operation.
type pair struct {
	name     string
	down, up func(a, b float64) float64
}

func addCalls() pair { return pair{"Add", intervals.AddDown, intervals.AddUp} }
func mulCalls() pair { return pair{"Mul", intervals.MulDown, intervals.MulUp} }
func divCalls() pair { return pair{"Div", intervals.DivDown, intervals.DivUp} }

// sqrtCalls lets the root go through the tests of the other calls: it passes its second argument by.
func sqrtCalls() pair {
	return pair{
		"Sqrt",
		func(a, _ float64) float64 { return intervals.SqrtDown(a) },
		func(a, _ float64) float64 { return intervals.SqrtUp(a) },
	}
}

func allCalls() []pair { return []pair{addCalls(), mulCalls(), divCalls(), sqrtCalls()} }

func same(a, b float64) bool { return math.Float64bits(a) == math.Float64bits(b) }

func isNumber(v float64) bool { return !math.IsNaN(v) && !math.IsInf(v, 0) }

// positives are the edges of the float64s above 0, and ordinary ones.
func positives() []float64 {
	const least = 0x1p-1022 // the least one with all its bits
	return []float64{
		tiny, 2 * tiny, 3 * tiny, 5 * tiny,
		0x1p-1060, 0x1.8p-1023, least - tiny, least, least + tiny, 2 * least, 0x1.fffffffffffffp-1022,
		0x1p-1000, 0x1.5555555555555p-970, 0x1p-969, 0x1.0000000000001p-600,
		0x1p-538, 0x1p-537, 0x1.fffffffffffffp-537, 0x1.6a09e667f3bcdp-512, 0x1p-511, 0x1p-500,
		0x1p-60, 0x1p-54, 0x1p-53, 0x1p-52, 0.1, 0.2, 1.0 / 3, 0.5,
		0x1.fffffffffffffp-01, 1, 0x1.0000000000001p+00, 1.5, 2, 3, 5, 7, 10,
		0x1p+53, 0x1.0000000000001p+53, 0x1.fffffffffffffp+53,
		0x1p+500, 0x1.fffffffffffffp+511, 0x1p+512, 0x1.0000000000001p+512, 0x1p+537,
		0x1p+969, 0x1p+970, 0x1.8p+970, 0x1p+971, 0x1p+1022, 0x1.fffffffffffffp+1022, 0x1p+1023, 0x1.ffffffffffffep+1023, top,
	}
}

// numbers are the edges of both signs, with both noughts.
func numbers() []float64 {
	all := []float64{0, neg0}
	for _, v := range positives() {
		all = append(all, v, -v)
	}
	return all
}

// arguments are the numbers, and all that is no number.
func arguments() []float64 {
	return append(numbers(), inf, -inf, nan, -nan,
		math.Float64frombits(0x7ff0000000000001), math.Float64frombits(0xffffffffffffffff))
}

// mixer makes bits that have no plan, the same ones in each run.
type mixer uint64

func (m *mixer) next() uint64 {
	*m += 0x9e3779b97f4a7c15
	z := uint64(*m)
	z = (z ^ z>>30) * 0xbf58476d1ce4e5b9
	z = (z ^ z>>27) * 0x94d049bb133111eb
	return z ^ z>>31
}

// float answers any float64, NaN and infinities too.
func (m *mixer) float() float64 { return math.Float64frombits(m.next()) }

// near answers one whose exponent is close to e, so that two of them meet at an edge.
func (m *mixer) near(e int) float64 {
	v := math.Ldexp(1+float64(m.next()>>12)*0x1p-52, e+int(m.next()%7)-3)
	if m.next()%2 == 0 {
		return -v
	}
	return v
}

// mixed answers n pairs: of any bits, of like size, and with product or quotient at both ends of the float64s.
func mixed(n int) [][2]float64 {
	m := mixer(1)
	var all [][2]float64
	for range n {
		e := int(m.next()%2000) - 1000
		all = append(all,
			[2]float64{m.float(), m.float()},
			[2]float64{m.near(e), m.near(e)},
			[2]float64{m.near(e), m.near(e - 53)},
			[2]float64{m.near(e / 2), m.near(-1022 - e/2)},
			[2]float64{m.near(e / 2), m.near(-1074 - e/2)},
			[2]float64{m.near(e / 2), m.near(1023 - e/2)},
			[2]float64{m.near(e / 2), m.near(e/2 + 1022)},
			[2]float64{m.near(e / 2), m.near(e/2 - 1023)},
		)
	}
	return all
}

// order tells how a float64 stands to an exact number: -1 below, 0 the same, 1 above.
type order func(v float64) int

func rat(v float64) *big.Rat { return new(big.Rat).SetFloat64(v) }

// against makes the order to one rational number.
func against(r *big.Rat) order {
	return func(v float64) int {
		if math.IsInf(v, 0) {
			return int(math.Copysign(1, v))
		}
		return rat(v).Cmp(r)
	}
}

// againstRoot makes the order to the root of r, which need not be rational: it holds squares against r.
func againstRoot(r *big.Rat) order {
	return func(v float64) int {
		if v < 0 || math.IsInf(v, 1) {
			return int(math.Copysign(1, v))
		}
		return new(big.Rat).Mul(rat(v), rat(v)).Cmp(r)
	}
}

// exactly makes the order to what an operation is of two numbers; nil, if there is nothing exact.
func exactly(name string, a, b float64) order {
	switch {
	case !isNumber(a) || !isNumber(b):
		return nil
	case name == "Add":
		return against(new(big.Rat).Add(rat(a), rat(b)))
	case name == "Mul":
		return against(new(big.Rat).Mul(rat(a), rat(b)))
	case name == "Div" && b != 0:
		return against(new(big.Rat).Quo(rat(a), rat(b)))
	case name == "Sqrt" && a >= 0:
		return againstRoot(rat(a))
	}
	return nil
}

// isDown tells whether d is the greatest float64 that is not above: the next one is.
func isDown(d float64, o order) bool { return o(d) <= 0 && o(math.Nextafter(d, inf)) > 0 }

// isUp tells whether u is the least float64 that is not below: the next one is.
func isUp(u float64, o order) bool { return o(u) >= 0 && o(math.Nextafter(u, -inf)) < 0 }

// checkExact holds both calls of c against the exact result, where there is one.
func checkExact(t *testing.T, c pair, a, b float64) {
	t.Helper()
	o := exactly(c.name, a, b)
	if o == nil {
		return
	}
	if d := c.down(a, b); !isDown(d, o) {
		t.Errorf("P3: %sDown(%x, %x) is %x: not DOWN", c.name, a, b, d)
	}
	if u := c.up(a, b); !isUp(u, o) {
		t.Errorf("P3: %sUp(%x, %x) is %x: not UP", c.name, a, b, u)
	}
}

func TestP3EdgesAreDownAndUp(t *testing.T) {
	for _, c := range allCalls() {
		for _, a := range numbers() {
			for _, b := range numbers() {
				checkExact(t, c, a, b)
			}
		}
	}
}

func TestP3MixedAreDownAndUp(t *testing.T) {
	for _, c := range allCalls() {
		for _, ab := range mixed(1500) {
			checkExact(t, c, ab[0], ab[1])
		}
	}
}

// TestP3Squares asks for the roots of numbers at and next to squares, where a lost bit tells.
func TestP3Squares(t *testing.T) {
	m := mixer(2)
	for range 3000 {
		v := math.Abs(m.near(int(m.next()%1000) - 500))
		half := math.Float64frombits(math.Float64bits(v) &^ (1<<27 - 1)) // its square is a float64
		for _, w := range []float64{v * v, half * half} {
			for _, a := range []float64{math.Nextafter(w, 0), w, math.Nextafter(w, inf)} {
				checkExact(t, sqrtCalls(), a, 0)
			}
		}
	}
}

// row is what both calls answer, to the bit.
type row struct{ a, b, down, up float64 }

func checkRows(t *testing.T, c pair, rows []row) {
	t.Helper()
	for _, r := range rows {
		if d := c.down(r.a, r.b); !same(d, r.down) {
			t.Errorf("P3: %sDown(%x, %x) is %x, want %x", c.name, r.a, r.b, d, r.down)
		}
		if u := c.up(r.a, r.b); !same(u, r.up) {
			t.Errorf("P3: %sUp(%x, %x) is %x, want %x", c.name, r.a, r.b, u, r.up)
		}
	}
}

func TestP3Examples(t *testing.T) {
	checkRows(t, addCalls(), []row{
		{1, 0x1p-60, 1, 0x1.0000000000001p+00},
		{top, 1, top, inf},
		{inf, -inf, -inf, inf},
	})
	checkRows(t, mulCalls(), []row{
		{tiny, 0.5, 0, tiny},
		{0, inf, 0, 0},
	})
	checkRows(t, divCalls(), []row{
		{-1, 3, -0x1.5555555555556p-02, -0x1.5555555555555p-02},
		{1, 0, -inf, inf},
	})
	checkRows(t, sqrtCalls(), []row{
		{2, 0, 0x1.6a09e667f3bccp+00, 0x1.6a09e667f3bcdp+00},
	})
}

func TestP3TooGreatAndTooSmall(t *testing.T) {
	checkRows(t, addCalls(), []row{
		{top, top, top, inf},
		{-top, -top, -inf, -top},
		{top, tiny, top, inf},
		{top, -tiny, 0x1.ffffffffffffep+1023, top},
		{top, 0x1p+970, top, inf},
		{-top, -0x1.fffffffffffffp+969, -inf, -top},
		{top, -top, 0, 0},
	})
	checkRows(t, mulCalls(), []row{
		{top, top, top, inf},
		{-top, top, -inf, -top},
		{top, 0x1.0000000000001p+00, top, inf},
		{0x1p+512, 0x1p+512, top, inf},
		{0x1.fffffffffffffp+511, 0x1.0000000000001p+512, top, inf},
		{tiny, tiny, 0, tiny},
		{tiny, -tiny, -tiny, 0},
		{-0x1p-538, 0x1p-537, -tiny, 0},
		{0x1p-1022, 0.5, 0x1p-1023, 0x1p-1023},
		{3 * tiny, 0.5, tiny, 2 * tiny},
	})
	checkRows(t, divCalls(), []row{
		{top, tiny, top, inf},
		{-top, tiny, -inf, -top},
		{tiny, -top, -tiny, 0},
		{-tiny, -top, 0, tiny},
		{3 * tiny, 2, tiny, 2 * tiny},
		{top, 0x1.fffffffffffffp-01, top, inf},
		{0x1p+1023, 0.5, top, inf},
	})
	checkRows(t, sqrtCalls(), []row{
		{tiny, 0, 0x1p-537, 0x1p-537},
		{2 * tiny, 0, 0x1.6a09e667f3bccp-537, 0x1.6a09e667f3bcdp-537},
		{top, 0, 0x1.fffffffffffffp+511, 0x1p+512},
	})
}

func TestP3AddWithoutNumbers(t *testing.T) {
	var rows []row
	for _, v := range numbers() {
		rows = append(rows,
			row{inf, v, inf, inf}, row{v, inf, inf, inf},
			row{-inf, v, -inf, -inf}, row{v, -inf, -inf, -inf},
			row{nan, v, -inf, inf}, row{v, nan, -inf, inf})
	}
	checkRows(t, addCalls(), append(rows,
		row{inf, inf, inf, inf}, row{-inf, -inf, -inf, -inf},
		row{inf, -inf, -inf, inf}, row{-inf, inf, -inf, inf},
		row{nan, inf, -inf, inf}, row{-inf, nan, -inf, inf}, row{nan, nan, -inf, inf}))
}

func TestP3MulWithoutNumbers(t *testing.T) {
	var rows []row
	for _, v := range numbers() {
		rows = append(rows,
			row{nan, v, -inf, inf}, row{v, nan, -inf, inf},
			row{0, v, 0, 0}, row{v, 0, 0, 0}, row{neg0, v, 0, 0}, row{v, neg0, 0, 0})
	}
	for _, v := range append(positives(), inf) {
		rows = append(rows,
			row{inf, v, inf, inf}, row{v, inf, inf, inf}, row{-inf, -v, inf, inf}, row{-v, -inf, inf, inf},
			row{-inf, v, -inf, -inf}, row{v, -inf, -inf, -inf}, row{inf, -v, -inf, -inf}, row{-v, inf, -inf, -inf})
	}
	checkRows(t, mulCalls(), append(rows,
		row{0, inf, 0, 0}, row{inf, 0, 0, 0}, row{neg0, inf, 0, 0}, row{-inf, 0, 0, 0}, row{-inf, neg0, 0, 0},
		row{nan, inf, -inf, inf}, row{-inf, nan, -inf, inf}, row{nan, nan, -inf, inf}))
}

func TestP3DivWithoutNumbers(t *testing.T) {
	var rows []row
	for _, v := range numbers() {
		rows = append(rows,
			row{nan, v, -inf, inf}, row{v, nan, -inf, inf},
			row{v, 0, -inf, inf}, row{v, neg0, -inf, inf},
			row{v, inf, 0, 0}, row{v, -inf, 0, 0})
	}
	for _, v := range positives() {
		rows = append(rows,
			row{inf, v, inf, inf}, row{-inf, -v, inf, inf},
			row{-inf, v, -inf, -inf}, row{inf, -v, -inf, -inf},
			row{0, v, 0, 0}, row{0, -v, 0, 0}, row{neg0, v, 0, 0}, row{neg0, -v, 0, 0})
	}
	for _, v := range []float64{inf, -inf} {
		rows = append(rows,
			row{v, 0, -inf, inf}, row{v, neg0, -inf, inf},
			row{v, inf, -inf, inf}, row{v, -inf, -inf, inf},
			row{nan, v, -inf, inf}, row{v, nan, -inf, inf})
	}
	checkRows(t, divCalls(), append(rows, row{nan, nan, -inf, inf}))
}

func TestP3SqrtWithoutNumbers(t *testing.T) {
	var rows []row
	for _, v := range append(positives(), inf) {
		rows = append(rows, row{-v, 0, 0, inf})
	}
	checkRows(t, sqrtCalls(), append(rows,
		row{nan, 0, 0, inf}, row{inf, 0, inf, inf}, row{0, 0, 0, 0}, row{neg0, 0, 0, 0}))
}

// checkAll hands check each pair of calls with all arguments that are tried: edges, NaNs and infinities, and mixed ones.
func checkAll(t *testing.T, check func(c pair, a, b float64)) {
	t.Helper()
	for _, c := range allCalls() {
		for _, a := range arguments() {
			for _, b := range arguments() {
				check(c, a, b)
			}
		}
		for _, ab := range mixed(20000) {
			check(c, ab[0], ab[1])
		}
	}
}

func TestP1NoRoundingCallPanics(t *testing.T) {
	checkAll(t, func(c pair, a, b float64) {
		defer func() {
			if r := recover(); r != nil {
				t.Errorf("P1: %s(%x, %x) panics: %v", c.name, a, b, r)
			}
		}()
		c.down(a, b)
		c.up(a, b)
	})
}

func TestP2NoNaNAndNoMinusNought(t *testing.T) {
	checkAll(t, func(c pair, a, b float64) {
		for _, v := range []float64{c.down(a, b), c.up(a, b)} {
			if math.IsNaN(v) || same(v, neg0) {
				t.Errorf("P2: %s(%x, %x) answers %x", c.name, a, b, v)
			}
		}
	})
}

// TestP2ArgumentsAlone asks all calls twice, the second time in the opposite order, so that anything kept would tell.
func TestP2ArgumentsAlone(t *testing.T) {
	type asked struct {
		c        pair
		a, b     float64
		down, up float64
	}
	var first []asked
	checkAll(t, func(c pair, a, b float64) {
		first = append(first, asked{c, a, b, c.down(a, b), c.up(a, b)})
	})
	for k := len(first) - 1; k >= 0; k-- {
		q := first[k]
		if u, d := q.c.up(q.a, q.b), q.c.down(q.a, q.b); !same(d, q.down) || !same(u, q.up) {
			t.Errorf("P2: %s(%x, %x): %x, %x, and asked again %x, %x", q.c.name, q.a, q.b, q.down, q.up, d, u)
		}
	}
}
