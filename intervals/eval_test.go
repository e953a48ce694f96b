package intervals_test

import (
	"slices"
	"strings"
	"testing"

	"intervals/api"
	"intervals/intervals"
)

// task is all that Eval is handed, with the picks of its policy.
type task struct {
	program string
	boxes   []api.Box
	discs   []api.Disc
	picks   []api.Kind
}

// told is all that can be seen of one Eval.
type told struct {
	value api.Value
	err   api.Errno
	at    int
	asked []api.Asked
}

func sameTold(x, y told) bool {
	return sameValue(x.value, y.value) && x.err == y.err && x.at == y.at && slices.Equal(x.asked, y.asked)
}

func (k task) eval() told {
	l := &api.Listed{Picks: k.picks}
	z, err := intervals.Eval(k.program, k.boxes, k.discs, l.Policy())
	e, at := api.Tell(err)
	return told{z, e, at, l.Asked}
}

// model goes through a task as the document tells it: what it is asked, what it answers.
func (k task) model() told {
	if len(k.program) > 60 || len(k.boxes) > 4 || len(k.discs) > 4 {
		return told{err: api.ErrLong}
	}
	var stack []api.Value
	var asked []api.Asked
	for at := range len(k.program) {
		b := k.program[at]
		fail := func(err api.Errno) told { return told{err: err, at: at, asked: asked} }
		box, disc := strings.IndexByte("0123", b), strings.IndexByte("abcd", b)
		switch {
		case box >= len(k.boxes) || disc >= len(k.discs):
			return fail(api.ErrInput)
		case box >= 0:
			stack = append(stack, ofBox(k.boxes[box]))
			continue
		case disc >= 0:
			stack = append(stack, ofDisc(k.discs[disc]))
			continue
		case !strings.Contains("+-*~^", string([]byte{b})):
			return fail(api.ErrOp)
		case len(stack) == 0 || len(stack) == 1 && strings.Contains("+-*", string(b)):
			return fail(api.ErrStack)
		}
		kind := api.Boxes
		if len(asked) < len(k.picks) {
			kind = k.picks[len(asked)]
		}
		asked = append(asked, api.Asked{Op: b, At: at})
		if kind != api.Boxes && kind != api.Discs {
			return fail(api.ErrPick)
		}
		stack = operated(b, stack, kind)
	}
	if len(stack) != 1 {
		return told{err: api.ErrStack, at: len(k.program), asked: asked}
	}
	return told{value: stack[0], asked: asked}
}

// operated is the stack behind an operation that has its arguments.
func operated(op byte, stack []api.Value, kind api.Kind) []api.Value {
	n := len(stack)
	y := stack[n-1]
	switch op {
	case '~':
		return append(stack[:n-1:n-1], conjugated(y, kind))
	case '^':
		return append(stack[:n-1:n-1], combined('*', y, y, kind))
	}
	return append(stack[:n-2:n-2], combined(op, stack[n-2], y, kind))
}

// text answers a program: a sound one, one with some bytes changed, or of any bytes.
func (m *mixer) text() string {
	text := []byte(m.sound(int(m.next() % 40)))
	for m.next()%2 == 0 {
		k := m.next() % uint64(len(text))
		switch m.next() % 4 {
		case 0:
			text[k] = byte(m.next())
		case 1:
			text[k] = "0123abcd+-*~^"[m.next()%13]
		case 2:
			text = text[:k+1]
		case 3:
			text = append(text, "0123abcd+-*~^x"[m.next()%14])
		}
	}
	if m.next()%100 == 0 {
		text = append(text, text...)
	}
	return string(text)
}

// bytes answers a text of any bytes, which may be too long.
func (m *mixer) bytes() string {
	text := make([]byte, m.next()%70)
	for k := range text {
		text[k] = byte(m.next())
	}
	return string(text)
}

// tasks answers n of them over inputs of all sorts; some lists are too short or too long, some picks are none.
func tasks(n int) []task {
	m := mixer(7)
	boxes, discs := append(someBoxes(), anyBoxes()...), anyDiscs()
	var all []task
	for range n {
		k := task{program: m.text()}
		for range 4 - m.next()%8/7 + m.next()%40/39 {
			k.boxes = append(k.boxes, boxes[m.next()%uint64(len(boxes))])
		}
		for range 4 - m.next()%8/7 + m.next()%40/39 {
			k.discs = append(k.discs, discs[m.next()%uint64(len(discs))])
		}
		if m.next()%3 == 0 {
			k.boxes, k.discs, _ = m.someInputs()
		}
		for range m.next() % 30 {
			k.picks = append(k.picks, api.Kind(m.next()%2))
		}
		if len(k.picks) > 0 && m.next()%4 == 0 {
			k.picks[m.next()%uint64(len(k.picks))] = []api.Kind{api.Panic, 2, -1}[m.next()%3]
		}
		all = append(all, k)
	}
	return all
}

// TestP9ToP11AsTold holds Eval against the document's telling, over programs sound and unsound.
func TestP9ToP11AsTold(t *testing.T) {
	count := map[api.Errno]int{}
	for _, k := range tasks(30000) {
		got, want := k.eval(), k.model()
		if !sameTold(got, want) {
			t.Fatalf("P9, P10, P11: Eval of %q over %v, %v with %v is %v, want %v", k.program, k.boxes, k.discs, k.picks, got, want)
		}
		count[want.err]++
	}
	for err := api.OK; err <= api.ErrPick; err++ {
		if count[err] < 100 {
			t.Errorf("only %d of the tasks come to error %d", count[err], err)
		}
	}
}

// TestP1EvalNeverPanics: at any texts, lists and policies; beside an error the value is zero.
func TestP1EvalNeverPanics(t *testing.T) {
	m := mixer(8)
	var k task
	defer func() {
		if r := recover(); r != nil {
			t.Errorf("P1: Eval(%q, %v, %v) with %v panics: %v", k.program, k.boxes, k.discs, k.picks, r)
		}
	}()
	for _, k = range tasks(5000) {
		if got := k.eval(); got.err != api.OK && !sameValue(got.value, api.Value{}) {
			t.Errorf("P1: Eval(%q) is %v beside error %d", k.program, got.value, got.err)
		}
		k.program = m.bytes()
		k.eval()
		k.boxes = nil
		k.eval()
		k.discs = nil
		k.eval()
	}
}

// TestP2EvalInTheFormOfAnswers: what an operation made has no NaN and no -0, and is in the one form of what has no
// number, or all.
func TestP2EvalInTheFormOfAnswers(t *testing.T) {
	for _, k := range tasks(20000) {
		got := k.eval()
		if got.err != api.OK || len(got.asked) == 0 {
			continue
		}
		b, d := got.value.Box, got.value.Disc
		for _, v := range []float64{b.Re.Lo, b.Re.Hi, b.Im.Lo, b.Im.Hi, real(d.Mid), imag(d.Mid), d.Rad} {
			if !isPlain(v) {
				t.Errorf("P2: Eval(%q, %v, %v) is %v", k.program, k.boxes, k.discs, got.value)
			}
		}
		switch {
		case isNoBox(b) && !sameBox(b, noBox()), isAllDisc(d) && !sameDisc(d, allDisc()):
			t.Errorf("P11: Eval(%q) is %v: not in the form of answers", k.program, got.value)
		case !isAllDisc(d) && hasNoNumber(d) && !sameDisc(d, noDisc()):
			t.Errorf("P11: Eval(%q) is %v: not in the form of answers", k.program, got.value)
		}
	}
}

// TestP2EvalByArgumentsAlone asks all tasks twice, the second time in the opposite order.
func TestP2EvalByArgumentsAlone(t *testing.T) {
	all := tasks(5000)
	var first []told
	for _, k := range all {
		first = append(first, k.eval())
	}
	for j := len(all) - 1; j >= 0; j-- {
		if again := all[j].eval(); !sameTold(again, first[j]) {
			t.Errorf("P2: Eval(%q) is %v, and asked again %v", all[j].program, first[j], again)
		}
	}
}

// TestP2EvalWritesNowhere: not into the lists, nor into the room behind their ends.
func TestP2EvalWritesNowhere(t *testing.T) {
	for _, k := range tasks(5000) {
		nb, nd := len(k.boxes), len(k.discs)
		boxes := append(slices.Clone(k.boxes), boxOf(of(7, nan), of(neg0, 7)), boxOf(of(8, 8), of(8, 8)))
		discs := append(slices.Clone(k.discs), discOf(7, neg0, nan), discOf(8, 8, 8))
		handed := task{k.program, slices.Clone(boxes)[:nb], slices.Clone(discs)[:nd], k.picks}
		handed.eval()
		if !slices.EqualFunc(handed.boxes[:nb+2], boxes, sameBox) || !slices.EqualFunc(handed.discs[:nd+2], discs, sameDisc) {
			t.Errorf("P2: Eval(%q) writes into what is handed in", k.program)
		}
	}
}

// TestP2EvalGoesByWhatWasHandedIn: a Pick that writes into the lists changes no answer, for it goes by what Pick answers
// alone.
func TestP2EvalGoesByWhatWasHandedIn(t *testing.T) {
	for _, program := range []string{"01+0+", "0~1*", "ab*a-", "a^0*b+1-", "0^~0a*+"} {
		for _, kind := range bothKinds() {
			boxes, discs := exampleBoxes(), exampleDiscs()
			z, err := intervals.Eval(program, boxes, discs, api.Policy{Pick: func(byte, int) api.Kind {
				clear(boxes)
				clear(discs)
				return kind
			}})
			want, _ := intervals.Eval(program, exampleBoxes(), exampleDiscs(), always(kind))
			if err != nil || !sameValue(z, want) {
				t.Errorf("P2: Eval(%q) is %v, %v when Pick writes into its lists, want %v", program, z, err, want)
			}
		}
	}
}

// TestP2EvalWithinPick: a Pick that runs programs itself changes no answer.
func TestP2EvalWithinPick(t *testing.T) {
	boxes, discs := exampleBoxes(), exampleDiscs()
	program := "01+a*2-b~^+"
	within := api.Policy{Pick: func(_ byte, at int) api.Kind {
		z, _ := intervals.Eval("ab+0-", boxes, discs, always(api.Kind(at%2)))
		return z.Kind
	}}
	z, err := intervals.Eval(program, boxes, discs, within)
	want, _ := intervals.Eval(program, boxes, discs, api.Policy{Pick: func(_ byte, at int) api.Kind { return api.Kind(at % 2) }})
	if err != nil || !sameValue(z, want) {
		t.Errorf("P2: Eval(%q) is %v, %v, want %v", program, z, err, want)
	}
}
