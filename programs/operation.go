package programs

import (
	"intervals/api"
	"intervals/plane"
)

// operation is how many sets a byte takes from the stack, and what it makes
// of them when they are held in boxes, and when in discs.
type operation struct {
	sign  byte
	takes int
	boxes func(args []set) set
	discs func(args []set) set
}

// operations is the table of them.
func operations() []operation {
	return []operation{
		ofTwo('+', plane.BoxAdd, plane.DiscAdd),
		ofTwo('-', plane.BoxSub, plane.DiscSub),
		ofTwo('*', plane.BoxMul, plane.DiscMul),
		ofOne('~', plane.BoxConj, plane.DiscConj),
		ofOne('^', twice(plane.BoxMul), twice(plane.DiscMul)),
	}
}

// ofTwo is an operation over x and y, which stand on the stack in this order.
func ofTwo(sign byte, boxes func(x, y api.Box) api.Box, discs func(x, y api.Disc) api.Disc) operation {
	return operation{
		sign:  sign,
		takes: 2,
		boxes: func(args []set) set { return box(boxes(asBox(args[0]), asBox(args[1]))) },
		discs: func(args []set) set { return disc(discs(asDisc(args[0]), asDisc(args[1]))) },
	}
}

// ofOne is an operation over the topmost set.
func ofOne(sign byte, boxes func(x api.Box) api.Box, discs func(x api.Disc) api.Disc) operation {
	return operation{
		sign:  sign,
		takes: 1,
		boxes: func(args []set) set { return box(boxes(asBox(args[0]))) },
		discs: func(args []set) set { return disc(discs(asDisc(args[0]))) },
	}
}

// twice makes an operation over two sets to one that takes the same set as both.
func twice[S any](do func(x, y S) S) func(x S) S {
	return func(x S) S { return do(x, x) }
}

// in is what the operation does with sets held in that kind.
func (o operation) in(kind api.Kind) func(args []set) set {
	if kind == api.Discs {
		return o.discs
	}
	return o.boxes
}
