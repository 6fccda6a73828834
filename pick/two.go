package pick

import (
	"slices"

	"glyph/api"
	"glyph/array"
	"glyph/rat"
)

// picked is what a path leads to, item by item.
func picked(origin int, path, a api.Array) (api.Array, api.Errno) {
	if len(path.Shape) > 1 {
		return api.Array{}, api.Rank
	}
	for _, where := range items(path) {
		place, e := placeOf(origin, items(opened(where)), a.Shape)
		if e != api.OK {
			return api.Array{}, e
		}
		a = opened(a.Items[place])
	}
	return array.Copy(a), api.OK
}

// placeOf is the ravel place, in an array of a shape, that numbers tell, one for each axis.
func placeOf(origin int, where []api.Item, shape []int) (int, api.Errno) {
	switch {
	case !areWhole(where):
		return 0, api.Domain
	case len(where) != len(shape):
		return 0, api.Rank
	}
	steps := make([]int, len(shape))
	for k, i := range where {
		step, ok := stepOf(origin, i, shape[k])
		if !ok {
			return 0, api.Index
		}
		steps[k] = step
	}
	place := 0
	for k, step := range steps {
		place = place*shape[k] + step
	}
	return place, api.OK
}

// indexed is At with the places that the items of an array are.
func indexed(e api.Env, a, b api.Array) (api.Array, api.Errno) {
	if len(a.Shape) > 1 {
		return api.Array{}, api.Rank
	}
	var places [][]api.Array
	for _, i := range items(a) {
		places = append(places, []api.Array{opened(i)})
	}
	return At(e, b, places...)
}

// encoded is, of each number of b, its digits by the radices a.
func encoded(a, b api.Array) (api.Array, api.Errno) {
	shape := slices.Concat(a.Shape, b.Shape)
	size, e := array.Size(shape)
	switch {
	case len(a.Shape) > 1 || e == api.Rank:
		return api.Array{}, api.Rank
	case !areNumbers(a, b):
		return api.Array{}, api.Domain
	case e != api.OK:
		return api.Array{}, e
	}
	out := make([]api.Item, size)
	for i, left := range items(b) {
		digits, e := digitsOf(left.Num, items(a))
		if e != api.OK {
			return api.Array{}, e
		}
		for k, digit := range digits {
			out[k*len(b.Items)+i] = digit
		}
	}
	return made(shape, number(0), out)
}

// digitsOf are a number's digits by radices, from the last one on.
func digitsOf(left api.Rat, radices []api.Item) ([]api.Item, api.Errno) {
	out := make([]api.Item, len(radices))
	for k, radix := range slices.Backward(radices) {
		digit, e := rat.Residue(radix.Num, left)
		if e != api.OK {
			return nil, e
		}
		out[k] = api.Item{Kind: api.Number, Num: digit}
		if left, e = leftBehind(left, digit, radix.Num); e != api.OK {
			return nil, e
		}
	}
	return out, api.OK
}

// leftBehind is what is left of a number behind a digit by a radix.
func leftBehind(left, digit, radix api.Rat) (api.Rat, api.Errno) {
	if rat.Sign(radix) == 0 {
		return rat.OfInt(0), api.OK
	}
	rest, e := rat.Sub(left, digit)
	if e != api.OK {
		return api.Rat{}, e
	}
	return rat.Div(rest, radix)
}
