// Package programs: programs over sets of complex numbers (P9 to P11).
package programs

import (
	"slices"

	"intervals/api"
)

// run is a program under way: its place is that of the byte that is done.
type run struct {
	api.Place
	boxes, discs []set
	policy       api.Policy
	table        []operation
	stack        []set
}

// Eval answers what a program leaves on its stack.
func Eval(program string, boxes []api.Box, discs []api.Disc, p api.Policy) (api.Value, error) {
	if len(program) > api.MaxProgram || len(boxes) > api.MaxInputs || len(discs) > api.MaxInputs {
		return api.Value{}, api.ErrLong
	}
	r := &run{
		boxes:  sets(boxes, func(x api.Box) set { return box(x) }),
		discs:  sets(discs, func(x api.Disc) set { return disc(x) }),
		policy: p,
		table:  operations(),
	}
	for ; r.At < len(program); r.At++ {
		if err := r.do(program[r.At]); err != nil {
			return api.Value{}, err
		}
	}
	if len(r.stack) != 1 {
		return api.Value{}, r.fault(api.ErrStack)
	}
	return r.stack[0].value(), nil
}

// fault is the error at the place where the program is.
func (r *run) fault(err api.Errno) error { return &api.Fault{Place: r.Place, Err: err} }

// do does one byte.
func (r *run) do(b byte) error {
	switch {
	case '0' <= b && b < '0'+api.MaxInputs:
		return r.put(r.boxes, int(b-'0'))
	case 'a' <= b && b < 'a'+api.MaxInputs:
		return r.put(r.discs, int(b-'a'))
	}
	k := slices.IndexFunc(r.table, func(o operation) bool { return o.sign == b })
	if k < 0 {
		return r.fault(api.ErrOp)
	}
	return r.operate(r.table[k])
}

// put lays one of the inputs on the stack.
func (r *run) put(inputs []set, k int) error {
	if k >= len(inputs) {
		return r.fault(api.ErrInput)
	}
	r.stack = append(r.stack, inputs[k])
	return nil
}

// operate lays what an operation makes of the topmost sets in their place.
// The policy is asked only when they are there.
func (r *run) operate(o operation) error {
	rest := len(r.stack) - o.takes
	if rest < 0 {
		return r.fault(api.ErrStack)
	}
	kind, picked := r.pick(o.sign)
	if !picked {
		return r.fault(api.ErrPick)
	}
	made := o.in(kind)(r.stack[rest:])
	r.stack = append(r.stack[:rest], made)
	return nil
}

// pick asks the policy how to hold what the operation makes. If Pick panics,
// picked is left false.
func (r *run) pick(sign byte) (kind api.Kind, picked bool) {
	if r.policy.Pick == nil {
		return api.Boxes, true
	}
	defer func() { recover() }()
	kind = r.policy.Pick(sign, r.At)
	return kind, kind == api.Boxes || kind == api.Discs
}
