package intervals_test

import (
	"math"
	"math/big"
	"testing"

	"intervals/api"
	"intervals/intervals"
)

type iv = api.Interval

func of(lo, hi float64) iv { return iv{Lo: lo, Hi: hi} }

var empty = of(inf, -inf)

func sameInterval(x, y iv) bool { return same(x.Lo, y.Lo) && same(x.Hi, y.Hi) }

// call is one call over intervals, with what it comes to at numbers of its arguments.
type call struct {
	name    string
	do      func(x, y iv) iv
	results func(x, y known) []order
}

// callsOfOne pass their second argument by.
func callsOfOne() []call {
	sqr := func(x, _ iv) iv { return intervals.Sqr(x) }
	sqrt := func(x, _ iv) iv { return intervals.Sqrt(x) }
	return []call{{"Sqr", sqr, squares}, {"Sqrt", sqrt, roots}}
}

func callsOfTwo() []call {
	return []call{
		{"Add", intervals.Add, ofEach((*big.Rat).Add)},
		{"Sub", intervals.Sub, ofEach((*big.Rat).Sub)},
		{"Mul", intervals.Mul, ofEach((*big.Rat).Mul)},
		{"Div", intervals.Div, ofEach(quotient)},
		{"Meet", intervals.Meet, inBoth},
		{"Hull", intervals.Hull, inEither},
	}
}

func intervalCalls() []call { return append(callsOfOne(), callsOfTwo()...) }

// edges are bounds of all sorts, in their order.
func edges() []float64 {
	return []float64{
		-inf, -top, -3, -0.1, -0x1p-600, -tiny,
		0, tiny, 0.3, 1, 0x1p+600, top, inf,
	}
}

// withNumbers answers all intervals between edges that have a number.
func withNumbers() []iv {
	all := []iv{of(neg0, neg0), of(neg0, 2), of(-2, neg0), of(0, neg0)}
	for k, lo := range edges() {
		for _, hi := range edges()[k:] {
			if !math.IsInf(lo, 1) && !math.IsInf(hi, -1) {
				all = append(all, of(lo, hi))
			}
		}
	}
	return all
}

// withoutNumbers answers intervals that have none, for each of the reasons.
func withoutNumbers() []iv {
	return []iv{
		empty, of(2, 1), of(tiny, 0), of(neg0, -tiny), of(1, -inf), of(inf, 1),
		of(inf, inf), of(-inf, -inf),
		of(nan, nan), of(nan, 1), of(1, nan), of(nan, inf), of(-inf, nan),
	}
}

// mixedIntervals answers n pairs of intervals with numbers: of any bits, and of like size.
func mixedIntervals(n int) [][2]iv {
	m := mixer(3)
	between := func(a, b float64) iv { return of(min(a, b), max(a, b)) }
	var all [][2]iv
	for len(all) < n {
		e := int(m.next()%1900) - 950
		for _, xy := range [][2]iv{
			{between(m.float(), m.float()), between(m.float(), m.float())},
			{between(m.near(e), m.near(e)), between(m.near(e), m.near(e))},
			{between(m.near(e/2), m.near(e/2)), between(m.near(-1040-e/2), m.near(-1040-e/2))},
			{between(m.near(e/2), m.near(e/2)), between(m.near(1022-e/2), m.near(1022-e/2))},
		} {
			if !xy[0].None() && !xy[1].None() {
				all = append(all, xy)
			}
		}
	}
	return all
}

// far is so far beyond MAX that its root, and its quotient by MAX, are too.
func far() *big.Rat { return new(big.Rat).SetInt(new(big.Int).Lsh(big.NewInt(1), 2200)) }

func has(x iv, r *big.Rat) bool { return against(r)(x.Lo) <= 0 && against(r)(x.Hi) >= 0 }

// known is an interval with some of its numbers.
type known struct {
	iv
	numbers []*big.Rat
}

// know finds numbers of x: its bounds, and such as lie far out, close to 0 and in the middle.
func know(x iv) known {
	little := new(big.Rat).Inv(far())
	tried := []*big.Rat{new(big.Rat), little, new(big.Rat).Neg(little), far(), new(big.Rat).Neg(far())}
	for _, v := range []float64{x.Lo, x.Hi, x.Lo/2 + x.Hi/2} {
		if isNumber(v) {
			tried = append(tried, rat(v))
		}
	}
	k := known{iv: x}
	for _, r := range tried {
		if has(x, r) {
			k.numbers = append(k.numbers, r)
		}
	}
	return k
}

func knowAll(xs []iv) []known {
	var all []known
	for _, x := range xs {
		all = append(all, know(x))
	}
	return all
}

// ofEach makes the results of an operation at each number of x with each of y; it answers nil where there is none.
func ofEach(op func(z, a, b *big.Rat) *big.Rat) func(x, y known) []order {
	return func(x, y known) []order {
		var all []order
		for _, a := range x.numbers {
			for _, b := range y.numbers {
				if r := op(new(big.Rat), a, b); r != nil {
					all = append(all, against(r))
				}
			}
		}
		return all
	}
}

func quotient(z, a, b *big.Rat) *big.Rat {
	if b.Sign() == 0 {
		return nil
	}
	return z.Quo(a, b)
}

func squares(x, _ known) []order {
	var all []order
	for _, a := range x.numbers {
		all = append(all, against(new(big.Rat).Mul(a, a)))
	}
	return all
}

func roots(x, _ known) []order {
	var all []order
	for _, a := range x.numbers {
		if a.Sign() >= 0 {
			all = append(all, againstRoot(a))
		}
	}
	return all
}

func inEither(x, y known) []order {
	var all []order
	for _, a := range append(x.numbers[:len(x.numbers):len(x.numbers)], y.numbers...) {
		all = append(all, against(a))
	}
	return all
}

func inBoth(x, y known) []order {
	var all []order
	for _, a := range append(x.numbers[:len(x.numbers):len(x.numbers)], y.numbers...) {
		if has(x.iv, a) && has(y.iv, a) {
			all = append(all, against(a))
		}
	}
	return all
}

// checkLeast holds an answer against what the call comes to: it has all of that, and between each of its bounds and the
// float64 next to it there is one of these numbers, so that the bound could not be moved.
func checkLeast(t *testing.T, c call, x, y known) {
	t.Helper()
	z := c.do(x.iv, y.iv)
	all := c.results(x, y)
	if len(all) == 0 {
		if !sameInterval(z, empty) {
			t.Errorf("P4: %s(%x, %x) is %x, want EMPTY", c.name, x.iv, y.iv, z)
		}
		return
	}
	down, up := false, false
	for _, o := range all {
		if !(o(z.Lo) <= 0 && o(z.Hi) >= 0) {
			t.Errorf("P4: %s(%x, %x) is %x: a number is not in it", c.name, x.iv, y.iv, z)
			return
		}
		down = down || isDown(z.Lo, o)
		up = up || isUp(z.Hi, o)
	}
	if !down || !up {
		t.Errorf("P4, P5: %s(%x, %x) is %x: not the least (Lo: %v, Hi: %v)", c.name, x.iv, y.iv, z, down, up)
	}
}

func TestP4EdgesAreLeast(t *testing.T) {
	all := knowAll(withNumbers())
	for _, x := range all {
		for _, c := range callsOfOne() {
			checkLeast(t, c, x, known{})
		}
		for _, y := range all {
			for _, c := range callsOfTwo() {
				checkLeast(t, c, x, y)
			}
		}
	}
}

func TestP4MixedAreLeast(t *testing.T) {
	for _, xy := range mixedIntervals(1500) {
		x, y := know(xy[0]), know(xy[1])
		for _, c := range intervalCalls() {
			checkLeast(t, c, x, y)
		}
	}
}

// intervalRow is what a call answers, to the bit.
type intervalRow struct{ x, y, z iv }

func checkIntervalRows(t *testing.T, name string, do func(x, y iv) iv, rows []intervalRow) {
	t.Helper()
	for _, r := range rows {
		if z := do(r.x, r.y); !sameInterval(z, r.z) {
			t.Errorf("P4: %s(%x, %x) is %x, want %x", name, r.x, r.y, z, r.z)
		}
	}
}

func TestP4Examples(t *testing.T) {
	checkIntervalRows(t, "Add", intervals.Add, []intervalRow{
		{of(1, inf), of(-1, 0), of(0, inf)},
	})
	checkIntervalRows(t, "Mul", intervals.Mul, []intervalRow{
		{of(1, inf), of(0, 0), of(0, 0)},
		{of(-1, 2), of(-3, 5), of(-6, 10)},
	})
	checkIntervalRows(t, "Div", intervals.Div, []intervalRow{
		{of(1, 1), of(3, inf), of(0, 0x1.5555555555556p-02)},
		{of(1, 1), of(0, 3), of(0x1.5555555555555p-02, inf)},
		{of(0, 0), of(-1, 1), of(0, 0)},
		{of(1, 2), of(0, 0), empty},
	})
	checkIntervalRows(t, "Meet", intervals.Meet, []intervalRow{{of(1, 2), of(2, 3), of(2, 2)}})
	checkIntervalRows(t, "Hull", intervals.Hull, []intervalRow{{of(2, 1), of(3, 4), of(3, 4)}})
	if z := intervals.Sqr(of(-2, 1)); !sameInterval(z, of(0, 4)) {
		t.Errorf("P4: Sqr([-2, 1]) is %x", z)
	}
	if z := intervals.Sqrt(of(-4, 9)); !sameInterval(z, of(0, 3)) {
		t.Errorf("P4: Sqrt([-4, 9]) is %x", z)
	}
}

// TestP4BothNoughts: a bound that is -0 is the number 0, and comes out as 0.
func TestP4BothNoughts(t *testing.T) {
	check := func(c call, x, y, p, q iv) {
		if z, want := c.do(p, q), c.do(x, y); !sameInterval(z, want) {
			t.Errorf("P4: %s(%x, %x) is %x, but of (%x, %x) %x", c.name, x, y, want, p, q, z)
		}
	}
	for _, c := range intervalCalls() {
		for _, x := range withNumbers() {
			for _, y := range []iv{of(0, 0), of(0, 3), of(-3, 0)} {
				for _, n := range minusNoughts(y) {
					check(c, x, y, x, n)
					check(c, y, x, n, x)
				}
			}
		}
	}
}

// minusNoughts answers x with -0 in place of one or both of its noughts.
func minusNoughts(x iv) []iv {
	turn := func(v float64) float64 {
		if v == 0 {
			return neg0
		}
		return v
	}
	return []iv{of(turn(x.Lo), x.Hi), of(x.Lo, turn(x.Hi)), of(turn(x.Lo), turn(x.Hi))}
}

// inForm is x as an answer has it.
func inForm(x iv) iv {
	if x.None() {
		return empty
	}
	return of(x.Lo+0, x.Hi+0)
}

func TestP4WithoutNumbers(t *testing.T) {
	for _, e := range withoutNumbers() {
		for _, c := range intervalCalls() {
			for _, x := range append(withNumbers(), withoutNumbers()...) {
				want := empty
				if c.name == "Hull" {
					want = inForm(x)
				}
				if z := c.do(e, x); !sameInterval(z, want) {
					t.Errorf("P4: %s(%x, %x) is %x, want %x", c.name, e, x, z, want)
				}
				if c.name == "Sqr" || c.name == "Sqrt" {
					continue
				}
				if z := c.do(x, e); !sameInterval(z, want) {
					t.Errorf("P4: %s(%x, %x) is %x, want %x", c.name, x, e, z, want)
				}
			}
		}
	}
}

// checkAllIntervals hands check each call with all pairs that are tried: edges, such without numbers, and mixed ones.
func checkAllIntervals(check func(c call, x, y iv)) {
	all := append(withNumbers(), withoutNumbers()...)
	for _, c := range intervalCalls() {
		for _, x := range all {
			for _, y := range all {
				check(c, x, y)
			}
		}
		for _, xy := range mixedIntervals(5000) {
			check(c, xy[0], xy[1])
		}
	}
}

func TestP5AddAndMulEitherWay(t *testing.T) {
	checkAllIntervals(func(c call, x, y iv) {
		if c.name != "Add" && c.name != "Mul" {
			return
		}
		if z, w := c.do(x, y), c.do(y, x); !sameInterval(z, w) {
			t.Errorf("P5: %s(%x, %x) is %x, the other way %x", c.name, x, y, z, w)
		}
	})
}

// within tells whether every number of x is in y.
func within(x, y iv) bool { return x.None() || y.Lo <= x.Lo && x.Hi <= y.Hi }

// wider answers intervals that have all numbers of x and more.
func wider(x iv) []iv {
	return []iv{
		of(math.Nextafter(x.Lo, -inf), x.Hi), of(x.Lo, math.Nextafter(x.Hi, inf)),
		of(min(x.Lo, 0), max(x.Hi, 0)), of(min(x.Lo, -1), x.Hi), of(x.Lo, max(x.Hi, 1)),
		of(-inf, x.Hi), of(x.Lo, inf), of(-inf, inf),
	}
}

func TestP5AnswersGrowWithArguments(t *testing.T) {
	checkAllIntervals(func(c call, x, y iv) {
		z := c.do(x, y)
		if !x.None() {
			for _, w := range wider(x) {
				if more := c.do(w, y); !within(z, more) {
					t.Errorf("P5: %s(%x, %x) is %x, but of %x only %x", c.name, x, y, z, w, more)
				}
			}
		}
		if !y.None() {
			for _, w := range wider(y) {
				if more := c.do(x, w); !within(z, more) {
					t.Errorf("P5: %s(%x, %x) is %x, but with %x only %x", c.name, x, y, z, w, more)
				}
			}
		}
	})
}

// anyIntervals answers intervals with any two bounds: NaN, infinities, and a Lo above the Hi too.
func anyIntervals() []iv {
	bounds := append([]float64{neg0, nan, -nan, math.Float64frombits(0x7ff0000000000001)}, edges()...)
	var all []iv
	for _, lo := range bounds {
		for _, hi := range bounds {
			all = append(all, of(lo, hi))
		}
	}
	return all
}

// checkAnyIntervals hands check each call with all pairs of intervals of any bounds.
func checkAnyIntervals(check func(c call, x, y iv)) {
	for _, c := range intervalCalls() {
		for _, x := range anyIntervals() {
			for _, y := range anyIntervals() {
				check(c, x, y)
			}
		}
	}
}

func TestP1NoIntervalCallPanics(t *testing.T) {
	checkAnyIntervals(func(c call, x, y iv) {
		defer func() {
			if r := recover(); r != nil {
				t.Errorf("P1: %s(%x, %x) panics: %v", c.name, x, y, r)
			}
		}()
		c.do(x, y)
	})
}

// TestP2IntervalsInTheFormOfAnswers: no NaN, no -0, and EMPTY alone without numbers.
func TestP2IntervalsInTheFormOfAnswers(t *testing.T) {
	checkAnyIntervals(func(c call, x, y iv) {
		z := c.do(x, y)
		for _, v := range []float64{z.Lo, z.Hi} {
			if math.IsNaN(v) || same(v, neg0) {
				t.Errorf("P2: %s(%x, %x) is %x", c.name, x, y, z)
			}
		}
		if z.None() && !sameInterval(z, empty) {
			t.Errorf("P4: %s(%x, %x) is %x: without numbers, but not EMPTY", c.name, x, y, z)
		}
	})
}

// TestP2IntervalsByArgumentsAlone asks all calls twice, the second time in the opposite order.
func TestP2IntervalsByArgumentsAlone(t *testing.T) {
	type asked struct {
		c       call
		x, y, z iv
	}
	var first []asked
	checkAllIntervals(func(c call, x, y iv) { first = append(first, asked{c, x, y, c.do(x, y)}) })
	for k := len(first) - 1; k >= 0; k-- {
		q := first[k]
		if z := q.c.do(q.x, q.y); !sameInterval(z, q.z) {
			t.Errorf("P2: %s(%x, %x) is %x, and asked again %x", q.c.name, q.x, q.y, q.z, z)
		}
	}
}
