package programs

import (
	"intervals/api"
	"intervals/plane"
)

// set is what stands on the stack: a box or a disc.
type set interface {
	value() api.Value
}

type box api.Box

type disc api.Disc

func (x box) value() api.Value { return api.Value{Kind: api.Boxes, Box: api.Box(x)} }

func (x disc) value() api.Value { return api.Value{Kind: api.Discs, Disc: api.Disc(x)} }

// asBox has the numbers of x. What is a box already goes on as it is, for
// turning makes a set greater.
func asBox(x set) api.Box {
	switch x := x.(type) {
	case box:
		return api.Box(x)
	case disc:
		return plane.ToBox(api.Disc(x))
	}
	return plane.AllBox() // a set of no known kind may have any number
}

// asDisc has the numbers of x, in the same way as asBox.
func asDisc(x set) api.Disc {
	switch x := x.(type) {
	case box:
		return plane.ToDisc(api.Box(x))
	case disc:
		return api.Disc(x)
	}
	return plane.AllDisc() // as in asBox
}

// sets copies a list that is handed in, since Pick, which runs amid the
// program, might write into it.
func sets[T any](list []T, of func(T) set) []set {
	var all []set
	for _, x := range list {
		all = append(all, of(x))
	}
	return all
}
