package intervals_test

import (
	"errors"
	"strings"
	"testing"

	"intervals/api"
	"intervals/intervals"
)

// checkFault asks for an *api.Fault, itself and not within another error, beside the zero value.
func checkFault(t *testing.T, program string, z api.Value, err error, want api.Errno, at int) {
	t.Helper()
	f, is := err.(*api.Fault)
	switch {
	case !is || f == nil:
		t.Errorf("P10: Eval(%q) is %v, %v, want error %d at %d", program, z, err, want, at)
	case f.Err != want || f.Where() != at || !errors.Is(err, want):
		t.Errorf("P10: Eval(%q) tells %v, want error %d at %d", program, err, want, at)
	case !sameValue(z, api.Value{}):
		t.Errorf("P1: Eval(%q) is %v beside an error", program, z)
	}
}

// TestP10Faults: over two boxes and one disc.
func TestP10Faults(t *testing.T) {
	boxes, discs := exampleBoxes()[:2], exampleDiscs()[:1]
	for _, r := range []struct {
		program string
		err     api.Errno
		at      int
	}{
		{"", api.ErrStack, 0},
		{"01", api.ErrStack, 2}, {"0a1", api.ErrStack, 3}, {"01+0~", api.ErrStack, 5},
		{"+", api.ErrStack, 0}, {"-", api.ErrStack, 0}, {"*", api.ErrStack, 0}, {"~", api.ErrStack, 0}, {"^", api.ErrStack, 0},
		{"0+", api.ErrStack, 1}, {"a-", api.ErrStack, 1}, {"0~*", api.ErrStack, 2}, {"01++", api.ErrStack, 3}, {"01+^-0", api.ErrStack, 4},
		{"2", api.ErrInput, 0}, {"3", api.ErrInput, 0}, {"b", api.ErrInput, 0}, {"d", api.ErrInput, 0},
		{"0a+c", api.ErrInput, 3}, {"0b+", api.ErrInput, 1},
		{"x", api.ErrOp, 0}, {"01+x", api.ErrOp, 3}, {"0 ", api.ErrOp, 1}, {"0\n", api.ErrOp, 1}, {"0\x00", api.ErrOp, 1},
		{"4", api.ErrOp, 0}, {"9", api.ErrOp, 0}, {"e", api.ErrOp, 0}, {"A", api.ErrOp, 0}, {"01/", api.ErrOp, 2},
		{"0é", api.ErrOp, 1}, {"0\xff", api.ErrOp, 1}, {"\u0661", api.ErrOp, 0}, {"01\uff0b", api.ErrOp, 2},
		// Where several apply: at the first byte, whatever its error is.
		{"2x", api.ErrInput, 0}, {"+x", api.ErrStack, 0}, {"x+", api.ErrOp, 0}, {"x2", api.ErrOp, 0}, {"2+", api.ErrInput, 0},
		{"+2", api.ErrStack, 0}, {"01x2+", api.ErrOp, 2}, {"012x", api.ErrInput, 2}, {"0++x2", api.ErrStack, 1}, {"01x", api.ErrOp, 2},
	} {
		for _, p := range []api.Policy{{}, always(api.Boxes), always(api.Discs)} {
			z, err := intervals.Eval(r.program, boxes, discs, p)
			checkFault(t, r.program, z, err, r.err, r.at)
		}
	}
}

// TestP10EachByte: all bytes but those thirteen are ErrOp, wherever they stand.
func TestP10EachByte(t *testing.T) {
	boxes, discs := exampleBoxes(), exampleDiscs()
	for b := range 256 {
		for _, ahead := range []string{"", "0", "0a", "0a+^01b~"} {
			program := ahead + string([]byte{byte(b)})
			z, err := intervals.Eval(program, boxes, discs, api.Policy{})
			if !strings.Contains("0123abcd+-*~^", string([]byte{byte(b)})) {
				checkFault(t, program, z, err, api.ErrOp, len(ahead))
			} else if errors.Is(err, api.ErrOp) {
				t.Errorf("P9: Eval(%q) tells %v", program, err)
			}
		}
	}
}

// TestP10InputsThatAreNotThere: of each length of both lists.
func TestP10InputsThatAreNotThere(t *testing.T) {
	for have := range api.MaxInputs + 1 {
		boxes, discs := exampleBoxes()[:have], exampleDiscs()[:have]
		for k := range api.MaxInputs {
			for _, program := range []string{"0123"[k : k+1], "abcd"[k : k+1]} {
				z, err := intervals.Eval(program, boxes, discs, api.Policy{})
				if k >= have {
					checkFault(t, program, z, err, api.ErrInput, 0)
				} else if err != nil {
					t.Errorf("P10: Eval(%q) with %d inputs: %v", program, have, err)
				}
			}
		}
		z, err := intervals.Eval("0", nil, discs, api.Policy{})
		checkFault(t, "0", z, err, api.ErrInput, 0)
		z, err = intervals.Eval("a", boxes, nil, api.Policy{})
		checkFault(t, "a", z, err, api.ErrInput, 0)
	}
}

// TestP10Long: ErrLong has no place, and comes ahead of all else; the policy is not asked.
func TestP10Long(t *testing.T) {
	asks := api.Policy{Pick: func(byte, int) api.Kind {
		t.Error("P10: Pick is asked of what is too long")
		return api.Boxes
	}}
	for _, r := range []struct {
		program      string
		boxes, discs int
	}{
		{"0" + strings.Repeat("^", 60), 1, 0},
		{strings.Repeat("0", 61), 1, 0},
		{strings.Repeat("x", 61), 0, 0},
		{strings.Repeat("é", 31), 0, 0},
		{strings.Repeat("0", 100000), 4, 4},
		{"0", 5, 0}, {"0", 1, 5}, {"a", 5, 1}, {"", 5, 0}, {"", 0, 5}, {"x", 5, 5}, {"01+", 1000, 0}, {"+", 0, 1000},
		{strings.Repeat("+", 61), 5, 5},
	} {
		z, err := intervals.Eval(r.program, make([]api.Box, r.boxes), make([]api.Disc, r.discs), asks)
		if err != error(api.ErrLong) || !sameValue(z, api.Value{}) {
			t.Errorf("P10: Eval(%.9q, %d, %d) is %v, %v, want ErrLong", r.program, r.boxes, r.discs, z, err)
		}
	}
}

// TestP10JustLongEnough: sixty bytes, and four of each list, are not too long.
func TestP10JustLongEnough(t *testing.T) {
	one := []api.Box{boxOf(of(1, 1), of(0, 0))}
	for _, program := range []string{
		"0" + strings.Repeat("^", 59),
		"0" + strings.Repeat("0*", 29) + "~",
		strings.Repeat("0", 30) + strings.Repeat("*", 29) + "~",
	} {
		z, err := intervals.Eval(program, one, nil, api.Policy{})
		if len(program) != api.MaxProgram || err != nil || !sameValue(z, ofBox(one[0])) {
			t.Errorf("P10: Eval(%q), %d bytes, is %v, %v, want 1", program, len(program), z, err)
		}
	}
	many, foreign := strings.Repeat("0", 60), strings.Repeat("é", 30)
	z, err := intervals.Eval(many, one, nil, api.Policy{})
	checkFault(t, many, z, err, api.ErrStack, 60)
	z, err = intervals.Eval(foreign, one, nil, api.Policy{})
	checkFault(t, foreign, z, err, api.ErrOp, 0)
	if _, err := intervals.Eval("3d*", make([]api.Box, 4), make([]api.Disc, 4), api.Policy{}); err != nil {
		t.Errorf("P10: Eval with four boxes and four discs: %v", err)
	}
}

// TestP10Tell: api.Tell takes each error of Eval apart.
func TestP10Tell(t *testing.T) {
	for _, r := range []struct {
		program string
		err     api.Errno
		at      int
	}{{"0", api.OK, 0}, {"0+", api.ErrStack, 1}, {"01", api.ErrInput, 1}, {"0~~x", api.ErrOp, 3}, {strings.Repeat("0", 61), api.ErrLong, 0}} {
		_, err := intervals.Eval(r.program, make([]api.Box, 1), nil, api.Policy{})
		if e, at := api.Tell(err); e != r.err || at != r.at {
			t.Errorf("P10: Eval(%q) tells %d at %d, want %d at %d", r.program, e, at, r.err, r.at)
		}
	}
}
