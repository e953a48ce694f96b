package intervals_test

import (
	"math"
	"math/big"
	"testing"

	"intervals/api"
	"intervals/intervals"
)

func discOf(re, im, rad float64) api.Disc { return api.Disc{Mid: complex(re, im), Rad: rad} }

func noDisc() api.Disc { return discOf(0, 0, -1) }

func allDisc() api.Disc { return discOf(0, 0, inf) }

func sameDisc(x, y api.Disc) bool {
	return same(real(x.Mid), real(y.Mid)) && same(imag(x.Mid), imag(y.Mid)) && same(x.Rad, y.Rad)
}

func isAllDisc(x api.Disc) bool { return math.IsInf(x.Rad, 1) }

// mids are middles of all sorts, some of whole length, and some whose length has squares that no float64 can be.
func mids() []complex128 {
	return []complex128{
		0, complex(neg0, neg0), 1, complex(3, -4), complex(-5e10, 12e10), complex(0.1, 1.0/3),
		complex(0, tiny), complex(-tiny, 3*tiny), complex(0x1.8p-1022, -0x1p-1022),
		complex(0x1p-600, 0x1.1p-600), complex(-0x1.3p-530, 0x1p-560), complex(1, 0x1p-1000),
		complex(0x1p+300, -0x1p+300), complex(-0x1p+300, 0.1), complex(0x1.1p+299, tiny),
		complex(0x1.5p+600, 0x1p+600), complex(top, 0), complex(-top, top), complex(1, 0x1p+1023),
	}
}

func rads() []float64 {
	return []float64{0, neg0, tiny, 0x1.7p-600, 0.1, 3, 0x1p+300, 0x1p+601, top}
}

func discsOf(mids []complex128, rads []float64) []api.Disc {
	var all []api.Disc
	for _, mid := range mids {
		for _, rad := range rads {
			all = append(all, api.Disc{Mid: mid, Rad: rad})
		}
	}
	return all
}

// discsWithout answers discs without numbers, for each of the reasons.
func discsWithout() []api.Disc {
	all := discsOf([]complex128{0, 1i, complex(nan, 1), complex(0, inf)}, []float64{-1, -tiny, -top, -inf, nan, -nan})
	off := []complex128{
		complex(nan, 0), complex(0, nan), complex(nan, nan), complex(nan, inf),
		complex(inf, 0), complex(-inf, 1), complex(1, inf), complex(0, -inf), complex(inf, -inf),
	}
	return append(all, discsOf(off, []float64{0, neg0, tiny, 1, top})...)
}

// discsWithAll answers discs with all numbers: where Mid is tells nothing.
func discsWithAll() []api.Disc {
	return discsOf([]complex128{0, complex(neg0, neg0), complex(1, -top), complex(nan, 5), complex(0, -inf), complex(inf, nan)}, []float64{inf})
}

// mixedDiscs answers n pairs of discs: of any bits, of like size, and far apart in size.
func mixedDiscs(n int) [][2]api.Disc {
	m := mixer(4)
	near := func(e int) api.Disc { return discOf(m.near(e), m.near(e), math.Abs(m.near(e))) }
	sharp := func(e int) api.Disc { return discOf(m.near(e), m.near(e), math.Abs(m.near(e-50))) }
	loose := func() api.Disc { return discOf(m.float(), m.float(), math.Abs(m.float())) }
	var all [][2]api.Disc
	for range n / 5 {
		e := int(m.next()%590) - 295
		all = append(all,
			[2]api.Disc{near(e), near(e)},
			[2]api.Disc{sharp(e), discOf(m.near(e), m.near(e-27), 0)},
			[2]api.Disc{discOf(m.near(e), m.near(e), 0), discOf(m.near(-e), m.near(-e), 0)},
			[2]api.Disc{near(-550 + e), near(290)},
			[2]api.Disc{loose(), loose()})
	}
	return all
}

func exactMid(x api.Disc) cx { return cx{rat(real(x.Mid)), rat(imag(x.Mid))} }

// squared is the square of how far a is from 0.
func squared(a cx) *big.Rat {
	re, im := new(big.Rat).Mul(a.re, a.re), new(big.Rat).Mul(a.im, a.im)
	return re.Add(re, im)
}

// inDisc tells whether a is no farther than Rad from Mid.
func inDisc(x api.Disc, a cx) bool {
	if isAllDisc(x) {
		return true
	}
	return squared(a.less(exactMid(x))).Cmp(new(big.Rat).Mul(rat(x.Rad), rat(x.Rad))) <= 0
}

// rootBelow is not above the root of r, and nearer to it than any room that P7 and P8 give.
func rootBelow(r *big.Rat) *big.Rat {
	down := new(big.Float).SetPrec(200).SetMode(big.ToZero).SetRat(r)
	root, _ := new(big.Float).SetPrec(200).SetMode(big.ToZero).Sqrt(down).Rat(nil)
	return root
}

func sizeBelow(a cx) *big.Rat { return rootBelow(squared(a)) }

func plus(a, b *big.Rat) *big.Rat  { return new(big.Rat).Add(a, b) }
func times(a, b *big.Rat) *big.Rat { return new(big.Rat).Mul(a, b) }

// slack is 2^-40 * m + 2^-500.
func slack(m *big.Rat) *big.Rat { return plus(times(rat(0x1p-40), m), rat(0x1p-500)) }

// roomFor is (1 + 2^-40) * r + 2^-40 * m + 2^-500.
func roomFor(r, m *big.Rat) *big.Rat { return plus(times(rat(1+0x1p-40), r), slack(m)) }

func inRange(vs ...float64) bool {
	for _, v := range vs {
		if !(math.Abs(v) <= 0x1p+300) {
			return false
		}
	}
	return true
}

func discInRange(x api.Disc) bool { return inRange(real(x.Mid), imag(x.Mid), x.Rad) }

// way tells which way a points, in radians, however small or great it is.
func way(a cx) float64 {
	re, im := new(big.Float).SetRat(a.re), new(big.Float).SetRat(a.im)
	e := max(re.MantExp(nil), im.MantExp(nil))
	x, _ := re.SetMantExp(re, -e).Float64()
	y, _ := im.SetMantExp(im, -e).Float64()
	return math.Atan2(y, x)
}

// unit is a number exactly 1 from 0 that points about that way.
func unit(way float64) cx {
	t := rat(float64(float32(math.Tan(way / 2))))
	over := new(big.Rat).Inv(plus(rat(1), times(t, t)))
	re := new(big.Rat).Sub(rat(1), times(t, t))
	return cx{re.Mul(re, over), times(times(rat(2), t), over)}
}

// outward is a number of x at its rim that lies about that way from Mid.
func outward(x api.Disc, way float64) cx {
	rad := cx{rat(x.Rad), new(big.Rat)}
	return exactMid(x).plus(unit(way).times(rad))
}

// discCall is one call over discs, with what it comes to at two numbers, and r and m of P7 (not above what they are).
type discCall struct {
	name  string
	do    func(x, y api.Disc) api.Disc
	exact func(a, b cx) cx
	sizes func(x, y api.Disc) (r, m *big.Rat)
	// aims answers which ways to go from both middles, that the result may lie that way from its own.
	aims func(x, y api.Disc, way float64) (ofX, ofY float64)
}

func discCalls() []discCall {
	sums := func(x, y api.Disc) (r, m *big.Rat) {
		return plus(rat(x.Rad), rat(y.Rad)), plus(sizeBelow(exactMid(x)), sizeBelow(exactMid(y)))
	}
	products := func(x, y api.Disc) (r, m *big.Rat) {
		a, b := sizeBelow(exactMid(x)), sizeBelow(exactMid(y))
		r = plus(times(a, rat(y.Rad)), times(b, rat(x.Rad)))
		return plus(r, times(rat(x.Rad), rat(y.Rad))), times(a, b)
	}
	same := func(_, _ api.Disc, way float64) (ofX, ofY float64) { return way, way }
	opposite := func(_, _ api.Disc, way float64) (ofX, ofY float64) { return way, way + math.Pi }
	turned := func(x, y api.Disc, to float64) (ofX, ofY float64) {
		return to - way(exactMid(y)), to - way(exactMid(x))
	}
	return []discCall{
		{"DiscAdd", intervals.DiscAdd, cx.plus, sums, same},
		{"DiscSub", intervals.DiscSub, cx.less, sums, opposite},
		{"DiscMul", intervals.DiscMul, cx.times, products, turned},
	}
}

// results answers what the call comes to at the middles, and at rims: the way that its own middle lies from 0, where
// products come farthest, and the way from which the answer's middle was rounded.
func (c discCall) results(x, y, z api.Disc) []cx {
	mid := c.exact(exactMid(x), exactMid(y))
	all := []cx{mid}
	for _, to := range []float64{way(mid), way(mid.less(exactMid(z)))} {
		ofX, ofY := c.aims(x, y, to)
		all = append(all, c.exact(outward(x, ofX), outward(y, ofY)))
	}
	return all
}

func checkDisc(t *testing.T, c discCall, x, y api.Disc) {
	t.Helper()
	z := c.do(x, y)
	if !isAllDisc(z) && hasNoNumber(z) {
		t.Errorf("P7: %s(%x, %x) is %x: without numbers", c.name, x, y, z)
		return
	}
	if !isAllDisc(z) {
		for _, a := range c.results(x, y, z) {
			if !inDisc(z, a) {
				t.Errorf("P7: %s(%x, %x) is %x: a number is not in it", c.name, x, y, z)
				break
			}
		}
	}
	if discInRange(x) && discInRange(y) {
		checkRoom(t, c, x, y, z)
	}
}

func checkRoom(t *testing.T, c discCall, x, y, z api.Disc) {
	t.Helper()
	r, m := c.sizes(x, y)
	if isAllDisc(z) || rat(z.Rad).Cmp(roomFor(r, m)) > 0 {
		t.Errorf("P7: %s(%x, %x) is %x: Rad is too great", c.name, x, y, z)
		return
	}
	off := squared(c.exact(exactMid(x), exactMid(y)).less(exactMid(z)))
	if room := slack(m); off.Cmp(times(room, room)) > 0 {
		t.Errorf("P7: %s(%x, %x) is %x: Mid is too far off", c.name, x, y, z)
	}
}

func TestP7Edges(t *testing.T) {
	all := discsOf(mids(), []float64{0, 0.1, 0x1p+300})
	for _, c := range discCalls() {
		for _, x := range all {
			for _, y := range all {
				checkDisc(t, c, x, y)
			}
		}
	}
}

func TestP7RadsOfAllSizes(t *testing.T) {
	some := []complex128{0, complex(3, -4), complex(0x1p-600, 0x1.1p-600), complex(0x1p+300, 0.1), complex(-top, 1)}
	all := discsOf(some, rads())
	for _, c := range discCalls() {
		for _, x := range all {
			for _, y := range all {
				checkDisc(t, c, x, y)
			}
		}
	}
}

func TestP7Mixed(t *testing.T) {
	for _, xy := range mixedDiscs(1500) {
		if hasNoNumber(xy[0]) || hasNoNumber(xy[1]) || isAllDisc(xy[0]) || isAllDisc(xy[1]) {
			continue
		}
		for _, c := range discCalls() {
			checkDisc(t, c, xy[0], xy[1])
		}
	}
}

// hasNoNumber tells whether a disc that has not all numbers has none.
func hasNoNumber(x api.Disc) bool {
	return !(x.Rad >= 0) || !isNumber(real(x.Mid)) || !isNumber(imag(x.Mid))
}

// discRow is what a call answers where nothing is rounded.
type discRow struct{ x, y, add, sub, mul api.Disc }

func TestP7Rows(t *testing.T) {
	for _, r := range []discRow{
		{discOf(1, 2, 0), discOf(3, 4, 0), discOf(4, 6, 0), discOf(-2, -2, 0), discOf(-5, 10, 0)},
		{discOf(3, 4, 1), discOf(0, 2, 2), discOf(3, 6, 3), discOf(3, 2, 3), discOf(-8, 6, 14)},
		{discOf(neg0, neg0, neg0), discOf(0, neg0, neg0), discOf(0, 0, 0), discOf(0, 0, 0), discOf(0, 0, 0)},
		{discOf(0, 0, 3), discOf(0, 0, 4), discOf(0, 0, 7), discOf(0, 0, 7), discOf(0, 0, 12)},
	} {
		for k, want := range []api.Disc{r.add, r.sub, r.mul} {
			c := discCalls()[k]
			if z := c.do(r.x, r.y); !aboutDisc(z, want) {
				t.Errorf("P7: %s(%x, %x) is %x, want about %x", c.name, r.x, r.y, z, want)
			}
		}
	}
}

// aboutDisc tells whether x has y and is hardly greater.
func aboutDisc(x, y api.Disc) bool {
	const little = 0x1p-30
	off := math.Hypot(real(x.Mid)-real(y.Mid), imag(x.Mid)-imag(y.Mid))
	return off <= little && x.Rad >= y.Rad && x.Rad <= y.Rad+little
}

// TestP7TooGreat: where no float64 is great enough for Mid or Rad, the disc has all numbers.
func TestP7TooGreat(t *testing.T) {
	far := discOf(0x1p+1000, 0, 0x1p+1000)
	if z := intervals.DiscMul(far, far); !sameDisc(z, allDisc()) {
		t.Errorf("P7: DiscMul(%x, %x) is %x, want all", far, far, z)
	}
	for _, z := range []api.Disc{
		intervals.DiscMul(discOf(0x1p+600, 0, 0), discOf(0, 0x1p+600, 0)),
		intervals.DiscMul(discOf(0, 0, 0x1p+600), discOf(0, 0, 0x1p+600)),
		intervals.DiscMul(discOf(0x1p+600, 0, 0), discOf(1, 0, 0x1p+600)),
		intervals.DiscAdd(discOf(0, 0, top), discOf(0, 0, top)),
		intervals.DiscSub(discOf(top, 0, top), discOf(-top, 0, top)),
	} {
		if !sameDisc(z, allDisc()) {
			t.Errorf("P7: of what is too great: %x, want all", z)
		}
	}
}

func TestP7WithoutNumbers(t *testing.T) {
	others := append(discsOf([]complex128{0, complex(3, 4), complex(top, tiny)}, rads()), discsWithAll()...)
	others = append(others, discsWithout()...)
	for _, c := range discCalls() {
		for _, e := range discsWithout() {
			for _, x := range others {
				if z := c.do(e, x); !sameDisc(z, noDisc()) {
					t.Errorf("P7: %s(%x, %x) is %x, want none", c.name, e, x, z)
				}
				if z := c.do(x, e); !sameDisc(z, noDisc()) {
					t.Errorf("P7: %s(%x, %x) is %x, want none", c.name, x, e, z)
				}
			}
		}
	}
}

// TestP7WithAll leaves out products with 0 alone, which need not be all numbers.
func TestP7WithAll(t *testing.T) {
	others := append(discsOf([]complex128{1, complex(tiny, 0), complex(0, -top)}, rads()), discsWithAll()...)
	for _, c := range discCalls() {
		for _, x := range discsWithAll() {
			for _, y := range others {
				if z := c.do(x, y); !sameDisc(z, allDisc()) {
					t.Errorf("P7: %s(%x, %x) is %x, want all", c.name, x, y, z)
				}
				if z := c.do(y, x); !sameDisc(z, allDisc()) {
					t.Errorf("P7: %s(%x, %x) is %x, want all", c.name, y, x, z)
				}
			}
		}
	}
}
