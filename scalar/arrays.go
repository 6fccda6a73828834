package scalar

import (
	"slices"

	"glyph/api"
	"glyph/array"
	"glyph/rat"
)

// Monadic goes through an array.
func Monadic(e api.Env, glyph rune, a api.Array) (api.Array, api.Errno) {
	do := ofOne()[glyph]
	switch {
	case do == nil:
		return api.Array{}, api.ErrNone
	case !array.Right(a) || !rat.Right(e.CT):
		return api.Array{}, api.ErrForm
	}
	return through(do, a)
}

// through is a function of each number of a right array. What it makes is no greater than that.
func through(do monad, a api.Array) (api.Array, api.Errno) {
	if isEmpty(a) {
		return empty(a.Shape), api.OK
	}
	out := api.Array{Shape: copyOf(a.Shape)}
	for i := range len(a.Items) {
		item, e := throughItem(do, a.Items[i])
		if e != api.OK {
			return api.Array{}, e
		}
		out.Items = append(out.Items, item)
	}
	return out, api.OK
}

func throughItem(do monad, i api.Item) (api.Item, api.Errno) {
	switch i.Kind {
	case api.Char:
		return api.Item{}, api.Domain
	case api.Box:
		a, e := through(do, i.Box[0])
		return boxed(a, e)
	}
	x, e := do(i.Num)
	return numbered(x, e)
}

// Dyadic goes through two arrays.
func Dyadic(e api.Env, glyph rune, a, b api.Array) (api.Array, api.Errno) {
	do, x := dyadOf(e, glyph, a, b)
	if x != api.OK {
		return api.Array{}, x
	}
	shape, x := together(a, b)
	if x != api.OK {
		return api.Array{}, x
	}
	return whole(glyph, do, shape, pairsOf(a, b))
}

// DyadicAt goes through two arrays of which one has more axes: the other one lies along some of them.
func DyadicAt(e api.Env, glyph rune, axes []int, a, b api.Array) (api.Array, api.Errno) {
	do, x := dyadOf(e, glyph, a, b)
	if x != api.OK {
		return api.Array{}, x
	}
	great, small := a, b
	if len(a.Shape) < len(b.Shape) {
		great, small = b, a
	}
	along, x := axesOf(e, axes, great, small)
	if x != api.OK {
		return api.Array{}, x
	}
	return whole(glyph, do, great.Shape, func(i int) (x, y *api.Item) {
		x, y = &great.Items[i], &small.Items[placeAlong(great.Shape, along, i)]
		if len(a.Shape) < len(b.Shape) {
			x, y = y, x
		}
		return x, y
	})
}

// axesOf are the axes, from 0 on, of the greater array along which the other one lies.
func axesOf(e api.Env, axes []int, great, small api.Array) ([]int, api.Errno) {
	if len(great.Shape) == len(small.Shape) {
		return nil, api.Rank
	}
	if len(axes) != len(small.Shape) {
		return nil, api.Axis
	}
	var out []int
	for k := range len(axes) {
		// How far it is from the origin on may be too great for an int, but never for a number without a sign.
		from := uint(axes[k]) - uint(e.IO)
		if axes[k] < e.IO || from >= uint(len(great.Shape)) || k > 0 && axes[k] <= axes[k-1] {
			return nil, api.Axis
		}
		out = append(out, int(from))
	}
	for k := range len(out) {
		if small.Shape[k] != great.Shape[out[k]] {
			return nil, api.Length
		}
	}
	return out, api.OK
}

// placeAlong is where an item of an array that has items, at the place i, stands in one that lies along some axes of it.
func placeAlong(shape, axes []int, i int) int {
	place := 0
	for k := range len(axes) {
		behind, _ := array.Size(shape[axes[k]+1:])
		place = place*shape[axes[k]] + i/behind%shape[axes[k]]
	}
	return place
}

func isEmpty(a api.Array) bool {
	return slices.Contains(a.Shape, 0)
}

// isOne tells whether an array has just one item; a prototype is none.
func isOne(a api.Array) bool {
	return len(a.Items) == 1 && !isEmpty(a)
}

// opened is the array that a right item is. It is gone through and not kept, so it needs no lists of its own.
func opened(i *api.Item) api.Array {
	if i.Kind == api.Box {
		return i.Box[0]
	}
	return api.Array{Items: []api.Item{*i}}
}

// empty is an array without items: a function of none is a 0.
func empty(shape []int) api.Array {
	return api.Array{Shape: copyOf(shape), Items: []api.Item{{Kind: api.Number, Num: rat.OfInt(0)}}}
}

func copyOf(shape []int) []int {
	return append([]int(nil), shape...)
}

// numbered is a number as an item, unless it has an error.
func numbered(x api.Rat, e api.Errno) (api.Item, api.Errno) {
	if e != api.OK {
		return api.Item{}, e
	}
	return api.Item{Kind: api.Number, Num: x}, api.OK
}

// boxed is an array as an item, unless it has an error. It comes of a box: so it is no simple scalar.
func boxed(a api.Array, e api.Errno) (api.Item, api.Errno) {
	if e != api.OK {
		return api.Item{}, e
	}
	return api.Item{Kind: api.Box, Box: []api.Array{a}}, api.OK
}
