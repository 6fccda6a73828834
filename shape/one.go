package shape

import (
	"slices"

	"glyph/api"
	"glyph/array"
)

func ravelled(a api.Array) (api.Array, api.Errno) {
	return array.Make([]int{count(a)}, a.Items...)
}

// count is how many items a right array has; a prototype is none.
func count(a api.Array) int {
	size, _ := array.Size(a.Shape)
	return size
}

func reversed(axis int, a api.Array) (api.Array, api.Errno) {
	return permuted(axis, a, func(l []int) []int {
		slices.Reverse(l)
		return l
	})
}

// permuted is an array with its places along an axis in another order. Without items, or axes, there is nothing to put in order, and the one item stays as it is.
func permuted(axis int, a api.Array, order func([]int) []int) (api.Array, api.Errno) {
	if count(a) == 0 || len(a.Shape) == 0 {
		return array.Copy(a), api.OK
	}
	all := steps(a.Shape)
	all[axis] = order(all[axis])
	return selected(a, all)
}

func transposed(a api.Array) (api.Array, api.Errno) {
	axes := make([]int, len(a.Shape))
	for k := range axes {
		axes[k] = len(axes) - 1 - k
	}
	return laidAlong(axes, a)
}

// laidAlong is an array with each of its axes laid along one of the result.
func laidAlong(axes []int, a api.Array) (api.Array, api.Errno) {
	rank := 0
	for _, axis := range axes {
		rank = max(rank, axis+1)
	}
	all, out := steps(a.Shape), make([][]int, rank)
	for axis := range out {
		var together [][]int
		for k := range all {
			if axes[k] == axis {
				together = append(together, all[k])
			}
		}
		out[axis] = diagonal(together...)
	}
	if count(a) == 0 { // the one item stays as it is
		a = array.Copy(a)
		a.Shape = lengths(out)
		return a, api.OK
	}
	return selected(a, out)
}

// diagonal are the steps along several axes at once, as many as along the shortest.
func diagonal(l ...[]int) []int {
	out := slices.Clone(l[0])
	for _, more := range l[1:] {
		out = out[:min(len(out), len(more))]
		for i := range out {
			out[i] += more[i]
		}
	}
	return out
}
