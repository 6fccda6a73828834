package scalar

import (
	"slices"

	"glyph/api"
	"glyph/array"
	"glyph/rat"
)

// pairing goes through two arrays, and counts the cells of what it makes of them. From where they are too many on it makes nothing any more, but goes on to the end: any other error goes ahead of Limit.
type pairing struct {
	glyph rune
	do    dyad
	cells int
}

// paired is ready to go through two arrays; or their error.
func paired(e api.Env, glyph rune, a, b api.Array) (*pairing, api.Errno) {
	do := ofTwo(e.CT)[glyph]
	switch {
	case do == nil:
		return nil, api.ErrNone
	case !array.Right(a) || !array.Right(b) || !rat.Right(e.CT):
		return nil, api.ErrForm
	}
	return &pairing{glyph: glyph, do: do}, api.OK
}

// whole is what was made of both arrays, if that is not too great. It is no deeper than the deeper one of them.
func (p *pairing) whole(a api.Array, e api.Errno) (api.Array, api.Errno) {
	switch {
	case e != api.OK:
		return api.Array{}, e
	case p.cells > api.MaxCells:
		return api.Array{}, api.Limit
	}
	return a, api.OK
}

func (p *pairing) arrays(a, b api.Array) (api.Array, api.Errno) {
	shape, e := together(a, b)
	if e != api.OK {
		return api.Array{}, e
	}
	return p.through(shape, func(i int) (x, y *api.Item) {
		return &a.Items[i%len(a.Items)], &b.Items[i%len(b.Items)]
	})
}

// through is an array of a shape, made of as many pairs of items.
func (p *pairing) through(shape []int, pair func(i int) (x, y *api.Item)) (api.Array, api.Errno) {
	size, _ := array.Size(shape)
	if size == 0 {
		p.cells++
		return empty(shape), api.OK
	}
	out := api.Array{Shape: copyOf(shape)}
	for i := range size {
		x, y := pair(i)
		if p.cells++; p.cells > api.MaxCells {
			if e := p.refused(x, y); e != api.OK {
				return api.Array{}, e
			}
			continue
		}
		item, e := p.items(*x, *y)
		if e != api.OK {
			return api.Array{}, e
		}
		out.Items = append(out.Items, item)
	}
	return out, api.OK
}

func (p *pairing) items(x, y api.Item) (api.Item, api.Errno) {
	switch {
	case x.Kind == api.Box || y.Kind == api.Box:
		a, e := p.arrays(opened(x), opened(y))
		return boxed(a, e)
	case x.Kind == api.Number && y.Kind == api.Number:
		n, e := p.do(x.Num, y.Num)
		return numbered(n, e)
	case !p.comparesCharacters():
		return api.Item{}, api.Domain
	}
	alike := x.Kind == y.Kind && x.Char == y.Char
	return numbered(truth(alike == (p.glyph == '=')), api.OK)
}

func (p *pairing) comparesCharacters() bool {
	return p.glyph == '=' || p.glyph == '≠'
}

// refused is the error of two items, without reckoning what becomes of them.
func (p *pairing) refused(x, y *api.Item) api.Errno {
	switch {
	case x.Kind == api.Box || y.Kind == api.Box:
		return p.refusedArrays(opened(*x), opened(*y))
	case x.Kind == api.Number && y.Kind == api.Number:
		if hasNone(p.glyph, &x.Num, &y.Num) {
			return api.Domain
		}
	case !p.comparesCharacters():
		return api.Domain
	}
	return api.OK
}

func (p *pairing) refusedArrays(a, b api.Array) api.Errno {
	shape, e := together(a, b)
	if e != api.OK {
		return e
	}
	size, _ := array.Size(shape)
	for i := range size {
		if e := p.refused(&a.Items[i%len(a.Items)], &b.Items[i%len(b.Items)]); e != api.OK {
			return e
		}
	}
	return api.OK
}

// together is the shape of what comes of two arrays.
func together(a, b api.Array) ([]int, api.Errno) {
	switch {
	case slices.Equal(a.Shape, b.Shape):
		return a.Shape, api.OK
	case isOne(a) && (!isOne(b) || len(a.Shape) < len(b.Shape)):
		return b.Shape, api.OK
	case isOne(b):
		return a.Shape, api.OK
	case len(a.Shape) != len(b.Shape):
		return nil, api.Rank
	}
	return nil, api.Length
}
