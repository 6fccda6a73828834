package shape

import (
	"slices"

	"glyph/api"
	"glyph/array"
)

// joined is two arrays, one behind the other along an axis of that with more axes; of two scalars a vector.
func joined(axis int, a, b api.Array) (api.Array, api.Errno) {
	rank := max(len(a.Shape), len(b.Shape), 1)
	if few := min(len(a.Shape), len(b.Shape)); few > 0 && rank-few > 1 {
		return api.Array{}, api.Rank
	}
	front, back := besides(axis, rank, a, b), besides(axis, rank, b, a)
	shape := slices.Clone(front)
	shape[axis] = back[axis]
	if !slices.Equal(shape, back) {
		return api.Array{}, api.Length
	}
	shape[axis] += front[axis]
	size, e := array.Size(shape)
	switch {
	case e != api.OK:
		return api.Array{}, e
	case size == 0:
		return array.Make(shape, array.Proto(a))
	}
	return array.Make(shape, laidOut(shape, axis, api.Array{Shape: front, Items: a.Items}, api.Array{Shape: back, Items: b.Items})...)
}

// besides is the shape that an array has beside another one, of which one at least has so many axes: what has fewer is one cell across the axis.
func besides(axis, rank int, a, other api.Array) []int {
	switch {
	case len(a.Shape) == rank:
		return a.Shape
	case len(a.Shape) > 0:
		return slices.Insert(slices.Clone(a.Shape), axis, 1)
	case len(other.Shape) == 0:
		return []int{1}
	}
	out := slices.Clone(other.Shape)
	out[axis] = 1
	return out
}

// laidOut are the items of a shape, of which the cells across an axis are those of arrays, one behind the other. A scalar's item stands for all of its cell.
func laidOut(shape []int, axis int, l ...api.Array) []api.Item {
	size, _ := array.Size(shape)
	out := make([]api.Item, size)
	to := slices.Collect(cells(shape, axis))
	for _, a := range l {
		for from := range cells(a.Shape, axis) {
			for i, place := range from {
				out[to[0][i]] = a.Items[place%len(a.Items)]
			}
			to = to[1:]
		}
	}
	return out
}
