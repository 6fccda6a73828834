package shape

import (
	"iter"
	"math"
	"slices"

	"glyph/api"
	"glyph/array"
)

// Strides are how far the next place along each axis is; none, if the shape is none, or if no int holds one of them (of a shape without items).
func Strides(shape ...int) []int {
	if _, e := array.Size(shape); e != api.OK {
		return nil
	}
	out := make([]int, len(shape))
	stride := 1
	for k, length := range slices.Backward(shape) {
		out[k] = stride
		if length > 0 && stride > math.MaxInt/length {
			return nil
		}
		stride *= length
	}
	return out
}

// Places are the places, in ravel order, of the items of an array along an axis, cell by cell; false: there is no such axis.
func Places(shape []int, axis int) ([][]int, bool) {
	if _, e := array.Size(shape); e != api.OK || axis < 0 || axis >= len(shape) {
		return nil, false
	}
	return slices.Collect(cells(shape, axis)), true
}

// cells yields, for each place along an axis, the ravel places of the items there, rising.
func cells(shape []int, axis int) iter.Seq[[]int] {
	return func(yield func([]int) bool) {
		all := steps(shape)
		for i := range shape[axis] {
			across := slices.Clone(all)
			across[axis] = all[axis][i : i+1]
			if !yield(slices.Collect(walk(across))) {
				return
			}
		}
	}
}

// steps are, for each axis, how far each place along it is from the first one. (They are asked of shapes with items; of others they say how many places there are.)
func steps(shape []int) [][]int {
	strides := Strides(shape...)
	if isEmpty(shape) {
		strides = make([]int, len(shape))
	}
	out := make([][]int, len(shape))
	for k, length := range shape {
		for i := range length {
			out[k] = append(out[k], i*strides[k])
		}
	}
	return out
}

const nowhere = -1

// walk yields, the last axis running fastest, where one step along each axis leads to: nowhere, if one of them does.
func walk(steps [][]int) iter.Seq[int] {
	return func(yield func(int) bool) {
		for _, l := range steps {
			if len(l) == 0 { // other axes may have more places than anybody can go through
				return
			}
		}
		if len(steps) == 0 {
			yield(0)
			return
		}
		ahead, last := steps[:len(steps)-1], steps[len(steps)-1]
		for place := range walk(ahead) {
			for _, step := range last {
				if !yield(onwards(place, step)) {
					return
				}
			}
		}
	}
}

func onwards(place, step int) int {
	if place < 0 || step < 0 {
		return nowhere
	}
	return place + step
}

func isEmpty(shape []int) bool {
	return slices.Contains(shape, 0)
}

// lengths are how many steps there are along each axis.
func lengths(steps [][]int) []int {
	out := make([]int, len(steps))
	for k, l := range steps {
		out[k] = len(l)
	}
	return out
}

// selected is an array of those items of a right one to which steps lead; its prototype, where they lead nowhere.
func selected(a api.Array, steps [][]int) (api.Array, api.Errno) {
	shape := lengths(steps)
	size, e := array.Size(shape)
	if e != api.OK {
		return api.Array{}, e
	}
	proto := array.Proto(a)
	if size == 0 {
		return array.Make(shape, proto)
	}
	var items []api.Item
	for place := range walk(steps) {
		if place == nowhere {
			items = append(items, proto)
		} else {
			items = append(items, a.Items[place])
		}
	}
	return array.Make(shape, items...)
}
