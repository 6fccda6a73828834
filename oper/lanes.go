package oper

import (
	"iter"
	"slices"

	"glyph/api"
	"glyph/array"
	"glyph/scalar"
)

// lanes yields the items, opened, of each lane of an array with items along an axis, in ravel order.
func lanes(a api.Array, axis int) iter.Seq[[]api.Array] {
	return func(yield func([]api.Array) bool) {
		length := a.Shape[axis]
		behind := sizeOf(a.Shape[axis+1:])
		for n := range len(a.Items) / length {
			lane := make([]api.Array, length)
			for k := range lane {
				lane[k] = opened(a.Items[placeIn(n, k, length, behind)])
			}
			if !yield(lane) {
				return
			}
		}
	}
}

// placeIn is the ravel place of the k-th item of the n-th lane, where lanes have a length, and there are so many places behind the axis.
func placeIn(n, k, length, behind int) int {
	return (n/behind*length+k)*behind + n%behind
}

// sizeOf is how many places a shape has of which it is known that they are not too many.
func sizeOf(shape []int) int {
	size, _ := array.Size(shape)
	return size
}

// stretch is a part of a lane: from a place up to another one, that left out.
type stretch struct {
	from, to int
}

// along is an array of a shape: of each lane its stretches, folded.
func (w work) along(f api.Func, axis int, a api.Array, shape []int, l []stretch) (api.Array, api.Errno) {
	if slices.Contains(shape, 0) {
		return array.Make(shape, array.Proto(a))
	}
	out := newGathering(shape)
	behind, n := sizeOf(a.Shape[axis+1:]), 0
	for lane := range lanes(a, axis) {
		for k, s := range l {
			folded, e := w.fold(f, lane[s.from:s.to])
			if e != api.OK {
				return api.Array{}, e
			}
			if e := out.put(placeIn(n, k, len(l), behind), folded); e != api.OK {
				return api.Array{}, e
			}
		}
		n++
	}
	return out.array()
}

// fold is one array at least folded, from the last one on.
func (w work) fold(f api.Func, l []api.Array) (api.Array, api.Errno) {
	so := l[len(l)-1]
	for _, ahead := range slices.Backward(l[:len(l)-1]) {
		var e api.Errno
		if so, e = w.apply(f, []api.Array{ahead}, so); e != api.OK {
			return api.Array{}, e
		}
	}
	return so, api.OK
}

// folds are all lanes along an axis, each folded.
func (w work) folds(f api.Func, axis int, a api.Array) (api.Array, api.Errno) {
	if len(a.Shape) == 0 {
		return array.Copy(a), api.OK
	}
	shape := without(a.Shape, axis)
	if a.Shape[axis] == 0 {
		return ofNothing(f, shape, array.Proto(a))
	}
	return w.along(f, axis, a, shape, []stretch{{0, a.Shape[axis]}})
}

// ofNothing is what lanes without items are folded to; without lanes there is the prototype.
func ofNothing(f api.Func, shape []int, proto api.Item) (api.Array, api.Errno) {
	x, ok := scalar.Identity(glyphOf(f))
	if !ok || !isScalar(f) {
		return api.Array{}, api.Domain
	}
	if slices.Contains(shape, 0) {
		return array.Make(shape, proto)
	}
	return array.Make(shape, api.Item{Kind: api.Number, Num: x})
}

// neighbours are, of each lane along an axis, all so many items side by side, folded.
func (w work) neighbours(f api.Func, axis int, many, a api.Array) (api.Array, api.Errno) {
	items := array.Items(many)
	if len(items) != 1 {
		return api.Array{}, api.Length
	}
	n, ok := whole(items[0])
	if !ok || n < 1 {
		return api.Array{}, api.Domain
	}
	if len(a.Shape) == 0 {
		a = api.Array{Shape: []int{1}, Items: a.Items}
	}
	if n > a.Shape[axis]+1 {
		return api.Array{}, api.Length
	}
	var l []stretch
	for from := range a.Shape[axis] + 1 - n {
		l = append(l, stretch{from, from + n})
	}
	shape := slices.Clone(a.Shape)
	shape[axis] = len(l)
	return w.along(f, axis, a, shape, l)
}

// scans are, of each lane along an axis, all its beginnings, folded.
func (w work) scans(f api.Func, axis int, a api.Array) (api.Array, api.Errno) {
	if len(a.Shape) == 0 {
		return array.Copy(a), api.OK
	}
	var l []stretch
	for to := range a.Shape[axis] {
		l = append(l, stretch{0, to + 1})
	}
	return w.along(f, axis, a, a.Shape, l)
}

// without is a shape without an axis; that of a scalar is as it is.
func without(shape []int, axis int) []int {
	if len(shape) == 0 {
		return nil
	}
	return slices.Concat(shape[:axis], shape[axis+1:])
}
