package intervals_test

import (
	"math"
	"testing"

	"intervals/api"
	"intervals/intervals"
)

// anyBoxes answers boxes with any four bounds: NaN, infinities and both noughts too.
func anyBoxes() []api.Box {
	bounds := []float64{-inf, -top, -tiny, neg0, 0, 0.3, top, inf, nan}
	var parts []iv
	for _, lo := range bounds {
		for _, hi := range bounds {
			parts = append(parts, of(lo, hi))
		}
	}
	var all []api.Box
	for k, re := range parts {
		for j := k % 3; j < len(parts); j += 3 {
			all = append(all, boxOf(re, parts[j]))
		}
	}
	return all
}

// anyDiscs answers discs with any middle and any Rad.
func anyDiscs() []api.Disc {
	all := discsOf(mids(), append(rads(), -1, nan, inf))
	return append(append(all, discsWithout()...), discsWithAll()...)
}

// someBoxes are fewer, so that all pairs of them can be asked.
func someBoxes() []api.Box {
	return append(append(boxesOf(sides()), boxesWithout()...), boxOf(of(nan, -nan), of(1, -inf)))
}

// plane is all that is asked of the calls over boxes and discs, with what they answered.
type plane struct {
	boxes []boxAnswer
	discs []discAnswer
}

type boxAnswer struct {
	ask func() api.Box
	z   api.Box
}

type discAnswer struct {
	ask func() api.Disc
	z   api.Disc
}

func (p *plane) box(ask func() api.Box)   { p.boxes = append(p.boxes, boxAnswer{ask, ask()}) }
func (p *plane) disc(ask func() api.Disc) { p.discs = append(p.discs, discAnswer{ask, ask()}) }

// askPlane asks all calls over boxes and discs, at arguments of all sorts.
func askPlane() *plane {
	p := &plane{}
	for _, x := range someBoxes() {
		for _, y := range someBoxes() {
			for _, c := range boxCalls() {
				p.box(func() api.Box { return c.do(x, y) })
			}
		}
	}
	for _, x := range anyDiscs() {
		p.box(func() api.Box { return intervals.ToBox(x) })
		for _, y := range anyDiscs() {
			for _, c := range discCalls() {
				p.disc(func() api.Disc { return c.do(x, y) })
			}
		}
	}
	for _, x := range anyBoxes() {
		p.disc(func() api.Disc { return intervals.ToDisc(x) })
	}
	for _, xy := range mixedDiscs(20000) {
		p.box(func() api.Box { return intervals.ToBox(xy[0]) })
		for _, c := range discCalls() {
			p.disc(func() api.Disc { return c.do(xy[0], xy[1]) })
		}
	}
	return p
}

func TestP1NoCallOverThePlanePanics(t *testing.T) {
	defer func() {
		if r := recover(); r != nil {
			t.Errorf("P1: a call over boxes or discs panics: %v", r)
		}
	}()
	askPlane()
}

func isPlain(v float64) bool { return !math.IsNaN(v) && !same(v, neg0) }

// TestP2ThePlaneInTheFormOfAnswers: no NaN, no -0, one box and one disc without numbers, one disc with all.
func TestP2ThePlaneInTheFormOfAnswers(t *testing.T) {
	p := askPlane()
	for _, a := range p.boxes {
		z := a.z
		if !isPlain(z.Re.Lo) || !isPlain(z.Re.Hi) || !isPlain(z.Im.Lo) || !isPlain(z.Im.Hi) {
			t.Errorf("P2: a call answers the box %x", z)
		}
		if isNoBox(z) && !sameBox(z, noBox()) {
			t.Errorf("P6, P8: a call answers the box %x: without numbers, but not EMPTY twice", z)
		}
	}
	for _, a := range p.discs {
		z := a.z
		if !isPlain(real(z.Mid)) || !isPlain(imag(z.Mid)) || !isPlain(z.Rad) {
			t.Errorf("P2: a call answers the disc %x", z)
		}
		switch {
		case isAllDisc(z) && !sameDisc(z, allDisc()):
			t.Errorf("P7, P8: a call answers the disc %x: with all numbers, but not in their form", z)
		case !isAllDisc(z) && hasNoNumber(z) && !sameDisc(z, noDisc()):
			t.Errorf("P7, P8: a call answers the disc %x: without numbers, but not in their form", z)
		}
	}
}

// TestP2ThePlaneByArgumentsAlone asks all calls twice, the second time in the opposite order.
func TestP2ThePlaneByArgumentsAlone(t *testing.T) {
	p := askPlane()
	for k := len(p.discs) - 1; k >= 0; k-- {
		if a := p.discs[k]; !sameDisc(a.ask(), a.z) {
			t.Errorf("P2: a call answers the disc %x, and asked again %x", a.z, a.ask())
		}
	}
	for k := len(p.boxes) - 1; k >= 0; k-- {
		if a := p.boxes[k]; !sameBox(a.ask(), a.z) {
			t.Errorf("P2: a call answers the box %x, and asked again %x", a.z, a.ask())
		}
	}
}
