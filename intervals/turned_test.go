package intervals_test

import (
	"math"
	"math/big"
	"testing"

	"intervals/api"
	"intervals/intervals"
)

// checkSide holds one part of a box against the same part of the disc that it has.
func checkSide(t *testing.T, x api.Disc, side iv, part float64) {
	t.Helper()
	lo := new(big.Rat).Sub(rat(part), rat(x.Rad))
	hi := plus(rat(part), rat(x.Rad))
	if !has(side, lo) || !has(side, hi) {
		t.Errorf("P8: ToBox(%x) has the part %x: a number is not in it", x, side)
		return
	}
	if !discInRange(x) {
		return
	}
	room := slack(plus(rat(math.Abs(part)), rat(x.Rad)))
	if !isNumber(side.Lo) || plus(rat(side.Lo), room).Cmp(lo) < 0 {
		t.Errorf("P8: ToBox(%x) has the part %x: Lo is too far off", x, side)
	}
	if !isNumber(side.Hi) || plus(hi, room).Cmp(rat(side.Hi)) < 0 {
		t.Errorf("P8: ToBox(%x) has the part %x: Hi is too far off", x, side)
	}
}

func checkToBox(t *testing.T, x api.Disc) {
	t.Helper()
	z := intervals.ToBox(x)
	checkSide(t, x, z.Re, real(x.Mid))
	checkSide(t, x, z.Im, imag(x.Mid))
}

func TestP8ToBox(t *testing.T) {
	for _, x := range discsOf(mids(), rads()) {
		checkToBox(t, x)
	}
	for _, xy := range mixedDiscs(2000) {
		for _, x := range xy {
			if !hasNoNumber(x) && !isAllDisc(x) {
				checkToBox(t, x)
			}
		}
	}
}

func TestP8ToBoxRows(t *testing.T) {
	for _, r := range []struct {
		x api.Disc
		z api.Box
	}{
		{discOf(3, 4, 2), boxOf(of(1, 5), of(2, 6))},
		{discOf(-1, neg0, neg0), boxOf(of(-1, -1), of(0, 0))},
		{discOf(neg0, neg0, 0), boxOf(of(0, 0), of(0, 0))},
		{discOf(2, -2, 2), boxOf(of(0, 4), of(-4, 0))},
	} {
		z := intervals.ToBox(r.x)
		for _, p := range [][2]float64{{z.Re.Lo, r.z.Re.Lo}, {z.Re.Hi, r.z.Re.Hi}, {z.Im.Lo, r.z.Im.Lo}, {z.Im.Hi, r.z.Im.Hi}} {
			if math.Abs(p[0]-p[1]) > 0x1p-30 {
				t.Errorf("P8: ToBox(%x) is %x, want about %x", r.x, z, r.z)
			}
		}
	}
}

func TestP8ToBoxOfNoneAndAll(t *testing.T) {
	for _, x := range discsWithout() {
		if z := intervals.ToBox(x); !sameBox(z, noBox()) {
			t.Errorf("P8: ToBox(%x) is %x, want none", x, z)
		}
	}
	whole := boxOf(of(-inf, inf), of(-inf, inf))
	for _, x := range discsWithAll() {
		if z := intervals.ToBox(x); !sameBox(z, whole) {
			t.Errorf("P8: ToBox(%x) is %x, want all", x, z)
		}
	}
}

// corners answers the four corners of a box.
func corners(x api.Box) []cx {
	var all []cx
	for _, re := range []float64{x.Re.Lo, x.Re.Hi} {
		for _, im := range []float64{x.Im.Lo, x.Im.Hi} {
			all = append(all, cx{rat(re), rat(im)})
		}
	}
	return all
}

// boxSizes answers r and m of P8 (not above what they are): half of the diagonal, and how far the farthest number is from 0.
func boxSizes(x api.Box) (r, m *big.Rat) {
	c := corners(x)
	m = new(big.Rat)
	for _, a := range c {
		if size := sizeBelow(a); size.Cmp(m) > 0 {
			m = size
		}
	}
	return times(rat(0.5), sizeBelow(c[0].less(c[3]))), m
}

func checkToDisc(t *testing.T, x api.Box) {
	t.Helper()
	z := intervals.ToDisc(x)
	if !isAllDisc(z) && hasNoNumber(z) {
		t.Errorf("P8: ToDisc(%x) is %x: without numbers", x, z)
		return
	}
	for _, a := range corners(x) {
		if !inDisc(z, a) {
			t.Errorf("P8: ToDisc(%x) is %x: a corner is not in it", x, z)
			return
		}
	}
	if !inRange(x.Re.Lo, x.Re.Hi, x.Im.Lo, x.Im.Hi) {
		return
	}
	if r, m := boxSizes(x); isAllDisc(z) || rat(z.Rad).Cmp(roomFor(r, m)) > 0 {
		t.Errorf("P8: ToDisc(%x) is %x: Rad is too great", x, z)
	}
}

// between answers all intervals between two of the numbers that are not out of order.
func between(numbers []float64) []iv {
	var all []iv
	for _, lo := range numbers {
		for _, hi := range numbers {
			if lo <= hi {
				all = append(all, of(lo, hi))
			}
		}
	}
	return all
}

func TestP8ToDisc(t *testing.T) {
	bounds := []float64{
		-top, -0x1p+1023, -0x1p+600, -0x1p+300, -3, -0.1, -0x1p-600, -3 * tiny, -tiny, 0,
		tiny, 0x1p-1022, 0x1.1p-530, 1.0 / 3, 1, 0x1.0000000000001p+00, 0x1.1p+299, 0x1p+300, 0x1.8p+700, top,
	}
	all := between(bounds)
	for k, re := range all {
		for j := k % 5; j < len(all); j += 5 {
			checkToDisc(t, boxOf(re, all[j]))
		}
	}
	mixed := mixedIntervals(1500)
	for k := 1; k < len(mixed); k++ {
		x := boxOf(mixed[k-1][0], mixed[k][1])
		if isNumber(x.Re.Lo) && isNumber(x.Re.Hi) && isNumber(x.Im.Lo) && isNumber(x.Im.Hi) {
			checkToDisc(t, x)
		}
	}
}

// TestP8SmallBoxes asks for boxes in range, sharp ones and such as hold 0, from the least numbers to the greatest in range.
func TestP8SmallBoxes(t *testing.T) {
	m := mixer(5)
	near := func(e int) iv {
		a := m.near(e)
		b := a
		for range m.next() % 4 {
			b = math.Nextafter(b, inf)
		}
		return of(a, b)
	}
	for range 1500 {
		e := int(m.next()%1360) - 1065
		a, b := m.near(e), m.near(e)
		checkToDisc(t, boxOf(near(e), near(e)))
		checkToDisc(t, boxOf(near(e), of(min(a, b), max(a, b))))
	}
}

func TestP8ToDiscRows(t *testing.T) {
	for _, r := range []struct {
		x api.Box
		z api.Disc
	}{
		{boxOf(of(0, 6), of(0, 8)), discOf(3, 4, 5)},
		{boxOf(of(1, 1), of(-2, -2)), discOf(1, -2, 0)},
		{boxOf(of(neg0, 0), of(neg0, neg0)), discOf(0, 0, 0)},
		{boxOf(of(-3, 3), of(-4, 4)), discOf(0, 0, 5)},
	} {
		if z := intervals.ToDisc(r.x); !aboutDisc(z, r.z) {
			t.Errorf("P8: ToDisc(%x) is %x, want about %x", r.x, z, r.z)
		}
	}
}

func TestP8ToDiscOfNoneAndAll(t *testing.T) {
	for _, x := range boxesWithout() {
		if z := intervals.ToDisc(x); !sameDisc(z, noDisc()) {
			t.Errorf("P8: ToDisc(%x) is %x, want none", x, z)
		}
	}
	for _, x := range []iv{of(-inf, inf), of(-inf, -top), of(0, inf), of(-inf, neg0)} {
		for _, y := range sides() {
			for _, b := range []api.Box{boxOf(x, y), boxOf(y, x)} {
				if z := intervals.ToDisc(b); !sameDisc(z, allDisc()) {
					t.Errorf("P8: ToDisc(%x) is %x, want all", b, z)
				}
			}
		}
	}
	far := boxOf(of(-top, top), of(-top, top))
	if z := intervals.ToDisc(far); !sameDisc(z, allDisc()) {
		t.Errorf("P8: ToDisc(%x) is %x, want all: its corners are too far", far, z)
	}
}
