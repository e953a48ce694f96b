package intervals_test

import (
	"math/big"
	"strings"
	"testing"

	"intervals/api"
	"intervals/intervals"
)

func ofBox(x api.Box) api.Value { return api.Value{Kind: api.Boxes, Box: x} }

func ofDisc(x api.Disc) api.Value { return api.Value{Kind: api.Discs, Disc: x} }

// sameValue holds all bits against each other, those of the one that is zero too.
func sameValue(x, y api.Value) bool {
	return x.Kind == y.Kind && sameBox(x.Box, y.Box) && sameDisc(x.Disc, y.Disc)
}

// always is the policy that picks one kind for all.
func always(kind api.Kind) api.Policy {
	return api.Policy{Pick: func(byte, int) api.Kind { return kind }}
}

func bothKinds() []api.Kind { return []api.Kind{api.Boxes, api.Discs} }

// exampleBoxes are the boxes of the document's example, and one without numbers.
func exampleBoxes() []api.Box {
	return []api.Box{
		boxOf(of(1, 2), of(3, 4)), boxOf(of(5, 5), of(6, 6)), boxOf(of(0, 1), of(0, 1)), boxOf(of(2, 1), of(neg0, 0)),
	}
}

func exampleDiscs() []api.Disc {
	return []api.Disc{discOf(3, 4, 1), discOf(0, 2, 2), discOf(neg0, -1, 0), discOf(1, nan, 1)}
}

// TestP9Examples: the document's.
func TestP9Examples(t *testing.T) {
	want := boxOf(of(-10, 7), of(0, 17))
	if z, err := intervals.Eval("01+2*", exampleBoxes()[:3], nil, api.Policy{}); err != nil || !sameValue(z, ofBox(want)) {
		t.Errorf("P9: Eval(01+2*) is %v, %v, want %v", z, err, want)
	}
	for _, r := range []struct {
		program string
		boxes   int
		err     api.Errno
		at      int
	}{{"0+", 1, api.ErrStack, 1}, {"01+x", 2, api.ErrOp, 3}, {"2", 2, api.ErrInput, 0}, {"01", 2, api.ErrStack, 2}} {
		z, err := intervals.Eval(r.program, exampleBoxes()[:r.boxes], nil, api.Policy{})
		checkFault(t, r.program, z, err, r.err, r.at)
	}
}

func TestP9Rows(t *testing.T) {
	in := exampleBoxes()
	for _, r := range []struct {
		program string
		want    api.Box
	}{
		{"01+2*", boxOf(of(-10, 7), of(0, 17))},
		{"01+", boxOf(of(6, 7), of(9, 10))},
		{"01-", boxOf(of(-4, -3), of(-3, -2))},
		{"10-", boxOf(of(3, 4), of(2, 3))},
		{"01*", boxOf(of(-19, -8), of(21, 32))},
		{"0~", boxOf(of(1, 2), of(-4, -3))},
		{"2~", boxOf(of(0, 1), of(-1, 0))},
		{"2^", boxOf(of(-1, 1), of(0, 2))},
		{"22-", boxOf(of(-1, 1), of(-1, 1))},
		{"012--", boxOf(of(-4, -2), of(-3, -1))},
		{"01-2-", boxOf(of(-5, -3), of(-4, -2))},
		{"0~1*", boxOf(of(23, 34), of(-14, -3))},
		{"01~*", boxOf(of(23, 34), of(3, 14))},
		{"1^^", boxOf(of(-3479, -3479), of(-1320, -1320))},
		{"03+", noBox()}, {"30-", noBox()}, {"3^", noBox()}, {"3~", noBox()}, {"23*0+", noBox()},
	} {
		for name, p := range map[string]api.Policy{"no policy": {}, "boxes": always(api.Boxes)} {
			z, err := intervals.Eval(r.program, in, nil, p)
			if err != nil || !sameValue(z, ofBox(r.want)) {
				t.Errorf("P9: Eval(%q) with %s is %v, %v, want %v", r.program, name, z, err, r.want)
			}
		}
	}
}

func TestP9DiscRows(t *testing.T) {
	for _, r := range []struct {
		program string
		want    api.Disc
	}{
		{"ab+", discOf(3, 6, 3)},
		{"ab-", discOf(3, 2, 3)},
		{"ba-", discOf(-3, -2, 3)},
		{"ab*", discOf(-8, 6, 14)},
		{"a~", discOf(3, -4, 1)},
		{"b^", discOf(-4, 0, 12)},
		{"ab*~a+", discOf(-5, -2, 15)},
	} {
		z, err := intervals.Eval(r.program, nil, exampleDiscs(), always(api.Discs))
		if err != nil || z.Kind != api.Discs || !aboutDisc(z.Disc, r.want) || !sameBox(z.Box, api.Box{}) {
			t.Errorf("P9: Eval(%q) is %v, %v, want about %v", r.program, z, err, r.want)
		}
	}
	for _, program := range []string{"ad+", "da-", "da*", "d~", "d^"} {
		z, err := intervals.Eval(program, nil, exampleDiscs(), always(api.Discs))
		if err != nil || !sameValue(z, ofDisc(noDisc())) {
			t.Errorf("P9: Eval(%q) is %v, %v, want none", program, z, err)
		}
	}
}

// TestP9EachInput: four digits and four letters put the eight inputs, each its own.
func TestP9EachInput(t *testing.T) {
	boxes, discs := exampleBoxes(), exampleDiscs()
	for k := range api.MaxInputs {
		digit, letter := "0123"[k:k+1], "abcd"[k:k+1]
		if z, err := intervals.Eval(digit, boxes, discs, api.Policy{}); err != nil || !sameValue(z, ofBox(boxes[k])) {
			t.Errorf("P9: Eval(%q) is %v, %v, want %v", digit, z, err, boxes[k])
		}
		if z, err := intervals.Eval(letter, boxes, discs, api.Policy{}); err != nil || !sameValue(z, ofDisc(discs[k])) {
			t.Errorf("P9: Eval(%q) is %v, %v, want %v", letter, z, err, discs[k])
		}
	}
}

// setsForPrograms are sets of all sorts: great and small ones, without numbers, with all, and in no answer's form.
func setsForPrograms() []api.Value {
	var all []api.Value
	for k, x := range someBoxes() {
		if k%7 == 0 {
			all = append(all, ofBox(x))
		}
	}
	for k, x := range anyDiscs() {
		if k%9 == 0 {
			all = append(all, ofDisc(x))
		}
	}
	return all
}

// evalOf puts x, then y, and does op; the names of the inputs hang on their kinds.
func evalOf(op string, x, y api.Value, kind api.Kind) (api.Value, error) {
	boxes, discs := []api.Box{x.Box, y.Box}, []api.Disc{x.Disc, y.Disc}
	program := "0a"[x.Kind:x.Kind+1] + "1b"[y.Kind:y.Kind+1] + op
	return intervals.Eval(program, boxes, discs, always(kind))
}

// TestP11WhatTheCallsAnswer: an operation puts what the call of the picked kind answers, whatever kinds it takes.
func TestP11WhatTheCallsAnswer(t *testing.T) {
	all := setsForPrograms()
	for _, x := range all {
		for _, y := range all {
			for _, kind := range bothKinds() {
				for _, op := range []byte("+-*") {
					want := combined(op, x, y, kind)
					if z, err := evalOf(string(op), x, y, kind); err != nil || !sameValue(z, want) {
						t.Fatalf("P11: %c of %v and %v in %d is %v, %v, want %v", op, x, y, kind, z, err, want)
					}
				}
			}
		}
	}
}

func asBox(x api.Value) api.Box {
	if x.Kind == api.Discs {
		return intervals.ToBox(x.Disc)
	}
	return x.Box
}

func asDisc(x api.Value) api.Disc {
	if x.Kind == api.Boxes {
		return intervals.ToDisc(x.Box)
	}
	return x.Disc
}

// combined is what the document says that + - * put.
func combined(op byte, x, y api.Value, kind api.Kind) api.Value {
	k := strings.IndexByte("+-*", op)
	if kind == api.Discs {
		return ofDisc(discCalls()[k].do(asDisc(x), asDisc(y)))
	}
	return ofBox(boxCalls()[k].do(asBox(x), asBox(y)))
}

// conjugated is what the document says that ~ puts.
func conjugated(x api.Value, kind api.Kind) api.Value {
	if kind == api.Boxes {
		z := asBox(x)
		if isNoBox(z) {
			return ofBox(noBox())
		}
		return ofBox(boxOf(inForm(z.Re), inForm(of(-z.Im.Hi, -z.Im.Lo))))
	}
	z := asDisc(x)
	switch {
	case isAllDisc(z):
		return ofDisc(allDisc())
	case hasNoNumber(z):
		return ofDisc(noDisc())
	}
	return ofDisc(discOf(real(z.Mid)+0, -imag(z.Mid)+0, z.Rad+0)) // -0 + 0 is 0
}

// TestP11Conjugates asks ~ of any box and disc: NaN, infinities and -0 in them too.
func TestP11Conjugates(t *testing.T) {
	var all []api.Value
	for _, x := range anyBoxes() {
		all = append(all, ofBox(x))
	}
	for _, x := range anyDiscs() {
		all = append(all, ofDisc(x))
	}
	for _, x := range all {
		for _, kind := range bothKinds() {
			z, err := intervals.Eval("0a"[x.Kind:x.Kind+1]+"~", []api.Box{x.Box}, []api.Disc{x.Disc}, always(kind))
			if want := conjugated(x, kind); err != nil || !sameValue(z, want) {
				t.Errorf("P11: ~ of %v in %d is %v, %v, want %v", x, kind, z, err, want)
			}
		}
	}
}

func TestP11ConjugateRows(t *testing.T) {
	for _, r := range []struct{ x, want api.Value }{
		{ofBox(boxOf(of(neg0, 0), of(neg0, 3))), ofBox(boxOf(of(0, 0), of(-3, 0)))},
		{ofBox(boxOf(of(1, 1), of(0, 0))), ofBox(boxOf(of(1, 1), of(0, 0)))},
		{ofBox(boxOf(of(-inf, 2), of(-inf, 3))), ofBox(boxOf(of(-inf, 2), of(-3, inf)))},
		{ofBox(boxOf(of(-1, top), of(tiny, inf))), ofBox(boxOf(of(-1, top), of(-inf, -tiny)))},
		{ofBox(boxOf(of(1, 2), of(nan, 1))), ofBox(noBox())},
		{ofBox(boxOf(of(2, 1), of(1, 2))), ofBox(noBox())},
		{ofBox(boxOf(of(1, 2), of(inf, inf))), ofBox(noBox())},
		{ofDisc(discOf(neg0, 0, neg0)), ofDisc(discOf(0, 0, 0))},
		{ofDisc(discOf(3, -top, tiny)), ofDisc(discOf(3, top, tiny))},
		{ofDisc(discOf(1, neg0, 2)), ofDisc(discOf(1, 0, 2))},
		{ofDisc(discOf(1, 2, -3)), ofDisc(noDisc())},
		{ofDisc(discOf(1, inf, 3)), ofDisc(noDisc())},
		{ofDisc(discOf(nan, 2, inf)), ofDisc(allDisc())},
	} {
		z, err := intervals.Eval("0a"[r.x.Kind:r.x.Kind+1]+"~", []api.Box{r.x.Box}, []api.Disc{r.x.Disc}, always(r.x.Kind))
		if err != nil || !sameValue(z, r.want) {
			t.Errorf("P11: ~ of %v is %v, %v, want %v", r.x, z, err, r.want)
		}
	}
}

// TestP9SquareIsAProduct: ^ is * with the same set twice, not the lesser set that squares alone would come to.
func TestP9SquareIsAProduct(t *testing.T) {
	for _, x := range setsForPrograms() {
		for _, kind := range bothKinds() {
			name := "0a"[x.Kind : x.Kind+1]
			boxes, discs := []api.Box{x.Box}, []api.Disc{x.Disc}
			z, err := intervals.Eval(name+"^", boxes, discs, always(kind))
			if want := combined('*', x, x, kind); err != nil || !sameValue(z, want) {
				t.Errorf("P9: ^ of %v in %d is %v, %v, want %v", x, kind, z, err, want)
			}
		}
	}
}

// sound answers a program that leaves one set, with at most n operations; products double how long exact numbers are,
// so that there are few of them.
func (m *mixer) sound(n int) string {
	program, depth, products := m.input(), 1, 0
	for range n {
		switch op := "+-*~^"[m.next()%5]; {
		case (op == '*' || op == '^') && products == 5:
		case op == '~' || op == '^':
			program += string(op)
			products += strings.Count("^", string(op))
		case depth < 2 || m.next()%4 == 0:
			program += m.input()
			depth++
		default:
			program += string(op)
			products += strings.Count("*", string(op))
			depth--
		}
	}
	return program + strings.Repeat("+", depth-1)
}

func (m *mixer) input() string { return string("0123abcd"[m.next()%8]) }

// someInputs answers four boxes and four discs with numbers, some sharp and some wide, with one number of each of them.
func (m *mixer) someInputs() (boxes []api.Box, discs []api.Disc, numbers map[byte]cx) {
	numbers = map[byte]cx{}
	for k := range api.MaxInputs {
		e := int(m.next()%60) - 30
		side := func() iv {
			a := m.near(e)
			return of(a, a+abs(m.near(e-int(m.next()%40))))
		}
		x := boxOf(side(), side())
		boxes = append(boxes, x)
		corner := corners(x)
		numbers["0123"[k]] = corner[m.next()%4]
		y := discOf(m.near(e), m.near(e), abs(m.near(e-int(m.next()%40))))
		discs = append(discs, y)
		numbers["abcd"[k]] = outward(y, float64(m.next()%7))
	}
	return boxes, discs, numbers
}

func abs(v float64) float64 { return max(v, -v) }

// exactValue is the value of a sound program at one number of each input.
func exactValue(program string, numbers map[byte]cx) cx {
	var stack []cx
	pop := func() cx {
		top := stack[len(stack)-1]
		stack = stack[:len(stack)-1]
		return top
	}
	for _, b := range []byte(program) {
		if a, is := numbers[b]; is {
			stack = append(stack, a)
			continue
		}
		y := pop()
		switch b {
		case '~':
			stack = append(stack, cx{y.re, new(big.Rat).Neg(y.im)})
		case '^':
			stack = append(stack, y.times(y))
		case '+':
			stack = append(stack, pop().plus(y))
		case '-':
			stack = append(stack, pop().less(y))
		case '*':
			stack = append(stack, pop().times(y))
		}
	}
	return pop()
}

// TestP9NothingIsLost: the answer has the exact value of the program at numbers on the rims of the inputs.
func TestP9NothingIsLost(t *testing.T) {
	m := mixer(6)
	for k := range 1500 {
		boxes, discs, numbers := m.someInputs()
		program := m.sound(2 + k%25)
		for _, pick := range []uint64{0, ^uint64(0), m.next()} {
			z, err := intervals.Eval(program, boxes, discs, api.Policy{Pick: func(_ byte, at int) api.Kind {
				return api.Kind(pick >> at & 1)
			}})
			if err != nil {
				t.Fatalf("P9: Eval(%q): %v", program, err)
			}
			a := exactValue(program, numbers)
			if z.Kind == api.Boxes && !inBox(z.Box, a) || z.Kind == api.Discs && !inDisc(z.Disc, a) {
				t.Errorf("P9: Eval(%q, %x, %x) is %x: a value is not in it", program, boxes, discs, z)
			}
		}
	}
}
