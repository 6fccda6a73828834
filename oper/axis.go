package oper

import (
	"math"

	"glyph/api"
	"glyph/array"
	"glyph/rat"
	"glyph/scalar"
	"glyph/shape"
)

// withAxis is a function along the axis that the caller tells.
func (w work) withAxis(f api.Func, left []api.Array, right api.Array) (api.Array, api.Errno) {
	where, e := w.Axis(f)
	if e != api.OK {
		return api.Array{}, e
	}
	part := f.Parts[0]
	axes, ok := axesOf(where, isScalar(part))
	switch {
	case !ok:
		return api.Array{}, api.Axis
	case part.Kind == api.Prim:
		return primitiveAt(w.Env(), part, axes, left, right)
	case part.Kind == api.Op1 && isOneOf(alongAxis, part.Text):
		return w.derivedAt(part, axes[0], left, right)
	}
	return api.Array{}, api.Syntax
}

// axesOf are the numbers of axes that an array tells: as many as one likes, if it is a scalar or a vector; or just one. False: it tells others.
func axesOf(where api.Array, many bool) ([]int, bool) {
	items := array.Items(where)
	switch {
	case !array.Right(where):
		return nil, false
	case many && len(where.Shape) > 1, !many && len(items) != 1:
		return nil, false
	}
	var out []int
	for _, i := range items {
		n, ok := whole(i)
		if !ok {
			return nil, false
		}
		out = append(out, n)
	}
	return out, true
}

// whole is an item that is a whole number; false: it is none. One that no int holds is taken as the nearest that an int holds: that is beyond all axes and lengths as well.
func whole(i api.Item) (int, bool) {
	if i.Kind != api.Number || !rat.IsInt(i.Num) {
		return 0, false
	}
	n, ok := rat.ToInt(i.Num)
	switch {
	case ok:
		return n, true
	case i.Num.Below:
		return math.MinInt, true
	}
	return math.MaxInt, true
}

// primitiveAt is a primitive along axes; along one, unless it is a scalar function.
func primitiveAt(e api.Env, f api.Func, axes []int, left []api.Array, right api.Array) (a api.Array, x api.Errno) {
	glyph := glyphOf(f)
	switch {
	case isScalar(f) && len(left) > 0:
		a, x = scalar.DyadicAt(e, glyph, axes, left[0], right)
	case isScalar(f):
		x = api.ErrNone
	case len(left) > 0:
		a, x = shape.DyadicAt(e, glyph, axes[0], left[0], right)
	default:
		a, x = shape.MonadicAt(e, glyph, axes[0], right)
	}
	if x == api.ErrNone {
		return api.Array{}, api.Syntax
	}
	return a, x
}

// derivedAt is what an operator makes of its part along the axis n of the right argument.
func (w work) derivedAt(f api.Func, n int, left []api.Array, right api.Array) (api.Array, api.Errno) {
	origin := w.Env().IO
	// How far it is from the origin on may be too great for an int, but never for a number without a sign.
	from := uint(n) - uint(origin)
	if n < origin || from >= uint(len(right.Shape)) {
		return api.Array{}, api.Axis
	}
	return w.alongs(f.Parts[0])[f.Text](int(from), left, right)
}
