package pick

import (
	"slices"

	"glyph/api"
	"glyph/array"
	"glyph/rat"
	"glyph/shape"
)

func enclosed(a api.Array) (api.Array, api.Errno) {
	return array.Make(nil, array.Enclose(a))
}

func first(a api.Array) (api.Array, api.Errno) {
	return array.Open(all(a)[0]), api.OK
}

// all are the items of a right array; of an empty one its prototype alone.
func all(a api.Array) []api.Item {
	if own := items(a); len(own) > 0 {
		return own
	}
	return []api.Item{array.Proto(a)}
}

// disclosed is the arrays of all items, side by side behind the array's own axes.
func disclosed(a api.Array) (api.Array, api.Errno) {
	var parts []api.Array
	for _, i := range all(a) {
		parts = append(parts, opened(i))
	}
	lengths := greatest(parts)
	out := slices.Concat(a.Shape, lengths)
	size, e := array.Size(out)
	switch {
	case e != api.OK:
		return api.Array{}, e
	case size == 0:
		return array.Make(out, array.Proto(parts[0]))
	case cellsFilled(parts, lengths) > api.MaxCells:
		return api.Array{}, api.Limit
	}
	var l []api.Item
	for _, part := range parts {
		l = append(l, filled(part, lengths)...)
	}
	return array.Make(out, l...)
}

// greatest are the greatest lengths of arrays, one at least, the last axes of all laid on each other.
func greatest(l []api.Array) []int {
	out := slices.Clone(l[0].Shape)
	for _, a := range l[1:] {
		lengths := ofRank(len(out), a.Shape)
		out = ofRank(len(lengths), out)
		for k := range out {
			out[k] = max(out[k], lengths[k])
		}
	}
	return out
}

// ofRank is a shape with so many axes at least: of length 1 ahead of its own.
func ofRank(rank int, shape []int) []int {
	ones := slices.Repeat([]int{1}, max(rank-len(shape), 0))
	return slices.Concat(ones, shape)
}

// filled are the items of an array, taken so far as the lengths say, which it fits in.
func filled(a api.Array, lengths []int) []api.Item {
	if slices.Equal(a.Shape, lengths) {
		return a.Items
	}
	a.Shape = ofRank(len(lengths), a.Shape)
	out, _ := shape.Dyadic(api.Env{}, '↑', array.Ints(lengths...), a)
	return out.Items
}

// cellsFilled are how many cells there are in all that is filled. They are reckoned, not counted: a great prototype may be missing thousands of times.
func cellsFilled(l []api.Array, lengths []int) int {
	size, _ := array.Size(lengths)
	count := 0
	for _, a := range l {
		own := items(a)
		missing := size - len(own)
		count += cells(own) + missing*cells([]api.Item{array.Proto(a)})
	}
	return count
}

// enlisted is all simple items through and through.
func enlisted(a api.Array) (api.Array, api.Errno) {
	leaf := a.Items[0]
	for leaf.Kind == api.Box {
		leaf = leaf.Box[0].Items[0]
	}
	return vector(leaf, simple(nil, a))
}

// simple is a list with the simple items of an array, at all levels, behind it.
func simple(l []api.Item, a api.Array) []api.Item {
	for _, i := range items(a) {
		if i.Kind == api.Box {
			l = simple(l, i.Box[0])
		} else {
			l = append(l, i)
		}
	}
	return l
}

// graded tells the places of items in an order; like ones stay as they stand.
func graded(origin int, by func(x, y api.Item) int) monad {
	return func(a api.Array) (api.Array, api.Errno) {
		if len(a.Shape) != 1 {
			return api.Array{}, api.Rank
		}
		places := make([]int, a.Shape[0])
		for i := range places {
			places[i] = origin + i
		}
		slices.SortStableFunc(places, func(i, j int) int {
			return by(a.Items[i-origin], a.Items[j-origin])
		})
		return array.Ints(places...), api.OK
	}
}

// length is that along the first axis.
func length(a api.Array) int {
	if len(a.Shape) == 0 {
		return 1
	}
	return a.Shape[0]
}

// counted is so many numbers from an origin on.
func counted(origin int, a api.Array) (api.Array, api.Errno) {
	own := items(a)
	switch {
	case len(a.Shape) > 1:
		return api.Array{}, api.Rank
	case len(own) != 1:
		return api.Array{}, api.Length
	case !areWhole(own) || own[0].Num.Below:
		return api.Array{}, api.Domain
	}
	n, ok := rat.ToInt(own[0].Num)
	if !ok || n > api.MaxItems {
		return api.Array{}, api.Limit
	}
	out := make([]int, n)
	for i := range out {
		out[i] = origin + i
	}
	return array.Ints(out...), api.OK
}
