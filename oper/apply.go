package oper

import (
	"glyph/api"
	"glyph/array"
	"glyph/pick"
	"glyph/scalar"
	"glyph/shape"
	"glyph/show"
)

// work applies functions by a caller.
type work struct {
	Caller
}

// deed is what is done with a right argument, and a left one, or none; deedAlong is one along an axis, from 0 on.
type (
	deed      func(left []api.Array, right api.Array) (api.Array, api.Errno)
	deedAlong func(axis int, left []api.Array, right api.Array) (api.Array, api.Errno)
)

// apply applies a right function to right arrays. They are only read: what is kept of them is copied at last.
func (w work) apply(f api.Func, left []api.Array, right api.Array) (api.Array, api.Errno) {
	if e := w.Step(); e != api.OK {
		return api.Array{}, e
	}
	switch f.Kind {
	case api.Prim:
		return w.primitive(f, left, right)
	case api.AxisOf:
		return w.withAxis(f, left, right)
	case api.User, api.Dfn:
		return w.called(f, left, right)
	}
	return w.operators(f.Parts)[f.Text](left, right)
}

// called is what the caller tells of a function. It is handed arrays of its own, and what it tells may be kept there: so both are copies.
func (w work) called(f api.Func, left []api.Array, right api.Array) (api.Array, api.Errno) {
	var own []api.Array
	for _, a := range left {
		own = append(own, array.Copy(a))
	}
	a, e := w.Call(f, own, array.Copy(right))
	switch {
	case e != api.OK:
		return api.Array{}, e
	case !array.Right(a):
		return api.Array{}, api.ErrForm
	}
	return array.Copy(a), api.OK
}

func (w work) primitive(f api.Func, left []api.Array, right api.Array) (api.Array, api.Errno) {
	glyph := glyphOf(f)
	switch {
	case glyph == '⍎':
		return w.called(f, left, right)
	case len(left) > 0:
		return ofTwo(w.Env(), glyph, left[0], right)
	case glyph == '⍕':
		return show.Format(right)
	}
	return ofOne(w.Env(), glyph, right)
}

// ofOne is the function of one array that a glyph is in the first layer that has it.
func ofOne(e api.Env, glyph rune, a api.Array) (api.Array, api.Errno) {
	type monad func(api.Env, rune, api.Array) (api.Array, api.Errno)
	for _, do := range []monad{scalar.Monadic, shape.Monadic, pick.Monadic} {
		if out, x := do(e, glyph, a); x != api.ErrNone {
			return out, x
		}
	}
	return api.Array{}, api.Syntax
}

// ofTwo is the function of two arrays that a glyph is in the first layer that has it.
func ofTwo(e api.Env, glyph rune, a, b api.Array) (api.Array, api.Errno) {
	type dyad func(api.Env, rune, api.Array, api.Array) (api.Array, api.Errno)
	for _, do := range []dyad{scalar.Dyadic, shape.Dyadic, pick.Dyadic} {
		if out, x := do(e, glyph, a, b); x != api.ErrNone {
			return out, x
		}
	}
	return api.Array{}, api.Syntax
}

// operators are what each operator does with its parts.
func (w work) operators(parts []api.Func) map[string]deed {
	f, g := parts[0], parts[len(parts)-1]
	along := w.alongs(f)
	return map[string]deed{
		"/":   onLast(along["/"]),
		"⌿":   onFirst(along["⌿"]),
		`\`:   onLast(along[`\`]),
		"⍀":   onFirst(along["⍀"]),
		"¨":   func(left []api.Array, right api.Array) (api.Array, api.Errno) { return w.each(f, left, right) },
		"⍨":   func(left []api.Array, right api.Array) (api.Array, api.Errno) { return w.turned(f, left, right) },
		outer: func(left []api.Array, right api.Array) (api.Array, api.Errno) { return w.outer(f, left, right) },
		inner: func(left []api.Array, right api.Array) (api.Array, api.Errno) { return w.inner(f, g, left, right) },
	}
}

// alongs are what each operator that goes along an axis does with its part.
func (w work) alongs(f api.Func) map[string]deedAlong {
	folded := func(axis int, left []api.Array, right api.Array) (api.Array, api.Errno) {
		if len(left) > 0 {
			return w.neighbours(f, axis, left[0], right)
		}
		return w.folds(f, axis, right)
	}
	scanned := func(axis int, left []api.Array, right api.Array) (api.Array, api.Errno) {
		if len(left) > 0 {
			return api.Array{}, api.Syntax
		}
		return w.scans(f, axis, right)
	}
	return map[string]deedAlong{"/": folded, "⌿": folded, `\`: scanned, "⍀": scanned}
}

func onLast(do deedAlong) deed {
	return func(left []api.Array, right api.Array) (api.Array, api.Errno) { return do(last(right), left, right) }
}

func onFirst(do deedAlong) deed {
	return func(left []api.Array, right api.Array) (api.Array, api.Errno) { return do(0, left, right) }
}

// last is the last axis of an array; of a scalar 0, as if it were a vector.
func last(a api.Array) int {
	return max(len(a.Shape)-1, 0)
}

// turned has the right argument on both sides, or both arguments turned about.
func (w work) turned(f api.Func, left []api.Array, right api.Array) (api.Array, api.Errno) {
	if len(left) == 0 {
		return w.apply(f, []api.Array{right}, right)
	}
	return w.apply(f, []api.Array{right}, left[0])
}
