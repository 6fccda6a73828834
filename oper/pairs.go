package oper

import (
	"slices"

	"glyph/api"
	"glyph/array"
	"glyph/rat"
)

// places tell, of a place in an array, the places of the items of the left and the right argument that come together there.
type places func(i int) (left, right int)

// each is a function of each item, or of each two that go together.
func (w work) each(f api.Func, left []api.Array, right api.Array) (api.Array, api.Errno) {
	shape, count := right.Shape, 1
	if len(left) > 0 {
		var e api.Errno
		if shape, e = together(left[0], right); e != api.OK {
			return api.Array{}, e
		}
		count = len(left[0].Items)
	}
	return w.ofItems(f, shape, left, right, func(i int) (int, int) {
		return i % count, i % len(right.Items)
	})
}

// outer is a function of each item of the left argument with each one of the right one.
func (w work) outer(f api.Func, left []api.Array, right api.Array) (api.Array, api.Errno) {
	if len(left) == 0 {
		return api.Array{}, api.Syntax
	}
	shape := slices.Concat(left[0].Shape, right.Shape)
	return w.ofItems(f, shape, left, right, func(i int) (int, int) {
		return i / len(right.Items), i % len(right.Items)
	})
}

// ofItems is an array of a shape: a function of the items that come together at each place.
func (w work) ofItems(f api.Func, shape []int, left []api.Array, right api.Array, at places) (api.Array, api.Errno) {
	size, e := array.Size(shape)
	switch {
	case e != api.OK:
		return api.Array{}, e
	case size == 0:
		return w.ofPrototypes(f, shape, left, right)
	}
	out := newGathering(shape)
	for i := range size {
		l, r := at(i)
		a, e := w.apply(f, openedAt(left, l), opened(right.Items[r]))
		if e != api.OK {
			return api.Array{}, e
		}
		if e := out.put(i, a); e != api.OK {
			return api.Array{}, e
		}
	}
	return out.array()
}

// openedAt are the items of arrays at a place, opened.
func openedAt(l []api.Array, place int) []api.Array {
	var out []api.Array
	for _, a := range l {
		out = append(out, opened(a.Items[place]))
	}
	return out
}

// ofPrototypes is an empty array, its prototype the type of what the function makes of those of its arguments.
func (w work) ofPrototypes(f api.Func, shape []int, left []api.Array, right api.Array) (api.Array, api.Errno) {
	var of []api.Array
	for _, a := range left {
		of = append(of, opened(array.Proto(a)))
	}
	a, e := w.apply(f, of, opened(array.Proto(right)))
	if e != api.OK {
		return api.Array{}, e
	}
	return array.Make(shape, array.Enclose(a))
}

// together is the shape of what comes of two arrays item by item.
func together(a, b api.Array) ([]int, api.Errno) {
	switch {
	case slices.Equal(a.Shape, b.Shape):
		return a.Shape, api.OK
	case isOne(a) && (!isOne(b) || len(a.Shape) < len(b.Shape)):
		return b.Shape, api.OK
	case isOne(b):
		return a.Shape, api.OK
	case len(a.Shape) != len(b.Shape):
		return nil, api.Rank
	}
	return nil, api.Length
}

// isOne tells whether an array has just one item; a prototype is none.
func isOne(a api.Array) bool {
	return len(a.Items) == 1 && !slices.Contains(a.Shape, 0)
}

// inner is the lanes of the left argument's last axis with those of the right one's first axis.
func (w work) inner(f, g api.Func, left []api.Array, right api.Array) (api.Array, api.Errno) {
	if len(left) == 0 {
		return api.Array{}, api.Syntax
	}
	a, b := withAxes(left[0]), withAxes(right)
	shape := slices.Concat(without(left[0].Shape, last(left[0])), without(right.Shape, 0))
	_, e := array.Size(shape)
	length, ok := lengthOf(a.Shape[last(a)], b.Shape[0])
	zero := api.Item{Kind: api.Number, Num: rat.OfInt(0)}
	switch {
	case e == api.Rank:
		return api.Array{}, e
	case !ok:
		return api.Array{}, api.Length
	case length == 0:
		return ofNothing(f, shape, zero)
	case e != api.OK:
		return api.Array{}, e
	case slices.Contains(shape, 0):
		return array.Make(shape, zero)
	}
	return w.laneByLane(shape, a, b, func(l, r []api.Array) (api.Array, api.Errno) {
		return w.product(f, g, length, l, r)
	})
}

// withAxes is an array; a scalar as a vector, which goes with all lanes as well.
func withAxes(a api.Array) api.Array {
	if len(a.Shape) == 0 {
		return api.Array{Shape: []int{1}, Items: a.Items}
	}
	return a
}

// lengthOf is how many items of two lanes of these lengths go together; false: they do not.
func lengthOf(l, r int) (int, bool) {
	switch {
	case l == r || r == 1:
		return l, true
	case l == 1:
		return r, true
	}
	return 0, false
}

// laneByLane is an array of a shape: what is done with each lane of a's last axis and each one of b's first axis.
func (w work) laneByLane(shape []int, a, b api.Array, do func(l, r []api.Array) (api.Array, api.Errno)) (api.Array, api.Errno) {
	out := newGathering(shape)
	n := 0
	for l := range lanes(a, last(a)) {
		for r := range lanes(b, 0) {
			made, e := do(l, r)
			if e != api.OK {
				return api.Array{}, e
			}
			if e := out.put(n, made); e != api.OK {
				return api.Array{}, e
			}
			n++
		}
	}
	return out.array()
}

// product is g of each two items of two lanes, of which so many go together, folded by f.
func (w work) product(f, g api.Func, length int, l, r []api.Array) (api.Array, api.Errno) {
	made := make([]api.Array, length)
	for k := range made {
		a, e := w.apply(g, []api.Array{l[k%len(l)]}, r[k%len(r)])
		if e == api.OK {
			e = enclosable(a)
		}
		if e != api.OK {
			return api.Array{}, e
		}
		made[k] = a
	}
	return w.fold(f, made)
}
