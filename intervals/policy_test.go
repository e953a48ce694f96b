package intervals_test

import (
	"errors"
	"math"
	"slices"
	"testing"

	"intervals/api"
	"intervals/intervals"
)

// asked makes a list of what a policy is asked.
func asked(ops string, places ...int) []api.Asked {
	var all []api.Asked
	for k, at := range places {
		all = append(all, api.Asked{Op: ops[k], At: at})
	}
	return all
}

// TestP11WhatIsAsked: once ahead of each operation that has its arguments, in their order, and never else.
func TestP11WhatIsAsked(t *testing.T) {
	for _, r := range []struct {
		program string
		err     api.Errno
		want    []api.Asked
	}{
		{"0", api.OK, nil},
		{"a", api.OK, nil},
		{"", api.ErrStack, nil},
		{"01+", api.OK, asked("+", 2)},
		{"0a+0~*^b-", api.OK, asked("+~*^-", 2, 4, 5, 6, 8)},
		{"0~~^", api.OK, asked("~~^", 1, 2, 3)},
		{"01", api.ErrStack, nil},
		{"+", api.ErrStack, nil},
		{"0-", api.ErrStack, nil},
		{"~", api.ErrStack, nil},
		{"0^*", api.ErrStack, asked("^", 1)},
		{"01+x~", api.ErrOp, asked("+", 2)},
		{"01+c~", api.ErrInput, asked("+", 2)},
		{"01*0", api.ErrStack, asked("*", 2)},
	} {
		for _, kind := range bothKinds() {
			l := &api.Listed{Picks: []api.Kind{kind, kind, kind, kind, kind}}
			_, err := intervals.Eval(r.program, exampleBoxes()[:2], exampleDiscs()[:2], l.Policy())
			if e, _ := api.Tell(err); e != r.err || !slices.Equal(l.Asked, r.want) {
				t.Errorf("P11: Eval(%q) asks %v and tells %v, want %v", r.program, l.Asked, err, r.want)
			}
		}
	}
}

// TestP11NoPick: without Pick all operations are held in boxes, those over discs too.
func TestP11NoPick(t *testing.T) {
	boxes, discs := exampleBoxes(), exampleDiscs()
	for _, program := range []string{"ab+", "ab-", "ab*", "a~", "a^", "0a*", "a0-", "ab*c~+d-", "d^", "0~a^+"} {
		z, err := intervals.Eval(program, boxes, discs, api.Policy{})
		want, wanted := intervals.Eval(program, boxes, discs, always(api.Boxes))
		if err != nil || wanted != nil || z.Kind != api.Boxes || !sameValue(z, want) {
			t.Errorf("P11: Eval(%q) without Pick is %v, %v, want %v", program, z, err, want)
		}
	}
}

// TestP11KindOfEach: each operation goes by its own pick; sets of the other kind are turned, those of its kind are not.
func TestP11KindOfEach(t *testing.T) {
	boxes, discs := exampleBoxes(), exampleDiscs()
	sum := intervals.BoxAdd(boxes[0], boxes[1])
	product := intervals.DiscMul(intervals.ToDisc(sum), discs[0])
	for _, r := range []struct {
		program string
		picks   []api.Kind
		want    api.Value
	}{
		{"01+a*", []api.Kind{api.Boxes, api.Discs}, ofDisc(product)},
		{"01+a*2-", []api.Kind{api.Boxes, api.Discs, api.Boxes}, ofBox(intervals.BoxSub(intervals.ToBox(product), boxes[2]))},
		{"01+a*2-", []api.Kind{api.Boxes, api.Discs, api.Discs}, ofDisc(intervals.DiscSub(product, intervals.ToDisc(boxes[2])))},
		{"01+^", []api.Kind{api.Boxes, api.Discs}, ofDisc(intervals.DiscMul(intervals.ToDisc(sum), intervals.ToDisc(sum)))},
		{"ab+^", []api.Kind{api.Discs, api.Boxes}, squareInBoxes(intervals.DiscAdd(discs[0], discs[1]))},
		{"a~", []api.Kind{api.Boxes}, ofBox(turnedAbout(intervals.ToBox(discs[0])))},
		{"ab-", nil, ofBox(intervals.BoxSub(intervals.ToBox(discs[0]), intervals.ToBox(discs[1])))},
	} {
		l := &api.Listed{Picks: r.picks}
		z, err := intervals.Eval(r.program, boxes, discs, l.Policy())
		if err != nil || !sameValue(z, r.want) {
			t.Errorf("P11: Eval(%q) with %v is %v, %v, want %v", r.program, r.picks, z, err, r.want)
		}
	}
}

func squareInBoxes(x api.Disc) api.Value {
	b := intervals.ToBox(x)
	return ofBox(intervals.BoxMul(b, b))
}

func turnedAbout(x api.Box) api.Box { return boxOf(x.Re, intervals.Sub(of(0, 0), x.Im)) }

// badPicks are the ways in which Pick picks nothing.
func badPicks() map[string]func() api.Kind {
	return map[string]func() api.Kind{
		"panics with a text":    func() api.Kind { panic("no") },
		"panics with an error":  func() api.Kind { panic(errors.New("no")) },
		"panics with an Errno":  func() api.Kind { panic(api.ErrStack) },
		"panics with a Fault":   func() api.Kind { panic(&api.Fault{Err: api.ErrOp}) },
		"panics with a kind":    func() api.Kind { panic(api.Discs) },
		"panics with nil":       func() api.Kind { panic(nil) },
		"writes into no map":    func() api.Kind { var m map[int]int; m[0] = 1; return api.Boxes },
		"goes beyond a list":    func() api.Kind { var l []api.Kind; return l[len(l)] },
		"follows a nil pointer": func() api.Kind { var l *api.Listed; return l.Picks[0] },
		"divides by nought":     func() api.Kind { var n api.Kind; return 1 / n },
		"panics when deferred":  func() api.Kind { defer func() { panic("no") }(); return api.Boxes },
		"panics twice":          func() api.Kind { defer func() { panic("no") }(); panic("no") },
		"answers 2":             func() api.Kind { return 2 },
		"answers -1":            func() api.Kind { return -1 },
		"answers api.Panic":     func() api.Kind { return api.Panic },
		"answers the greatest":  func() api.Kind { return math.MaxInt },
		"answers the least":     func() api.Kind { return math.MinInt },
		"answers 256":           func() api.Kind { return 256 },
	}
}

// TestP11PicksNothing: the fault stands at the operation, and nothing behind it is asked or done.
func TestP11PicksNothing(t *testing.T) {
	boxes, discs := exampleBoxes(), exampleDiscs()
	for name, bad := range badPicks() {
		for _, r := range []struct {
			program string
			good    int // how many picks are good ahead of it
			at      int
		}{{"01+", 0, 2}, {"a~", 0, 1}, {"b^", 0, 1}, {"0a-", 0, 2}, {"0a*~", 1, 3}, {"0a+0+x", 1, 4}, {"01+^~+", 2, 4}, {"01-0", 0, 2}} {
			n := 0
			z, err := intervals.Eval(r.program, boxes, discs, api.Policy{Pick: func(byte, int) api.Kind {
				n++
				if n <= r.good {
					return api.Kind(n % 2)
				}
				return bad()
			}})
			checkFault(t, r.program, z, err, api.ErrPick, r.at)
			if n != r.good+1 {
				t.Errorf("P11: Eval(%q) with a Pick that %s asks %d times, want %d", r.program, name, n, r.good+1)
			}
		}
	}
}

// TestP11PicksNothingOfListed: the given policy panics where its list says so.
func TestP11PicksNothingOfListed(t *testing.T) {
	l := &api.Listed{Picks: []api.Kind{api.Discs, api.Panic}}
	z, err := intervals.Eval("0~^~", exampleBoxes(), nil, l.Policy())
	checkFault(t, "0~^~", z, err, api.ErrPick, 2)
	if want := asked("~^", 1, 2); !slices.Equal(l.Asked, want) {
		t.Errorf("P11: asked %v, want %v", l.Asked, want)
	}
}

// TestP11BadPickBehindOtherFaults: Pick is not asked, and so is no fault, where another fault comes first.
func TestP11BadPickBehindOtherFaults(t *testing.T) {
	for program, want := range map[string]api.Errno{"+": api.ErrStack, "0*": api.ErrStack, "x~": api.ErrOp, "0b~": api.ErrInput, "": api.ErrStack, "00": api.ErrStack} {
		l := &api.Listed{Picks: []api.Kind{api.Panic}}
		z, err := intervals.Eval(program, exampleBoxes(), exampleDiscs()[:1], l.Policy())
		if e, _ := api.Tell(err); e != want || len(l.Asked) != 0 || !sameValue(z, api.Value{}) {
			t.Errorf("P11: Eval(%q) tells %v and asks %v, want error %d", program, err, l.Asked, want)
		}
	}
}

// TestP11ComesOutAsItWas: NaN, -0 and sets in no answer's form too, whatever the policy is.
func TestP11ComesOutAsItWas(t *testing.T) {
	never := api.Policy{Pick: func(byte, int) api.Kind { panic("asked") }}
	odd := math.Float64frombits(0xfff4000000000321) // a NaN with bits of its own
	boxes := append(anyBoxes(), boxOf(of(odd, neg0), of(neg0, -odd)))
	for k, x := range boxes {
		in := make([]api.Box, api.MaxInputs)
		in[k%4] = x
		z, err := intervals.Eval("0123"[k%4:k%4+1], in, nil, never)
		if err != nil || !sameValue(z, ofBox(x)) {
			t.Errorf("P11: the box %v comes out as %v, %v", x, z, err)
		}
	}
	discs := append(anyDiscs(), discOf(odd, neg0, neg0), discOf(neg0, odd, odd))
	for k, x := range discs {
		in := make([]api.Disc, api.MaxInputs)
		in[k%4] = x
		z, err := intervals.Eval("abcd"[k%4:k%4+1], nil, in, never)
		if err != nil || !sameValue(z, ofDisc(x)) {
			t.Errorf("P11: the disc %v comes out as %v, %v", x, z, err)
		}
	}
}
