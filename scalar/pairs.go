package scalar

import (
	"slices"

	"glyph/api"
	"glyph/array"
	"glyph/rat"
)

// pairing goes through two arrays, and counts the cells of what it makes of them. Behind so many as it keeps it goes on for the errors alone: what lies further on may have one, and the first one tells.
type pairing struct {
	glyph rune
	do    dyad
	cells int
	kept  int
}

// pairs are the two items, by their number, that come together in an array of a shape.
type pairs func(i int) (x, y *api.Item)

// dyadOf is the function of two numbers that a glyph is, if both arrays are right; or their error.
func dyadOf(e api.Env, glyph rune, a, b api.Array) (dyad, api.Errno) {
	do := ofTwo(e.CT)[glyph]
	switch {
	case do == nil:
		return nil, api.ErrNone
	case !array.Right(a) || !array.Right(b) || !rat.Right(e.CT):
		return nil, api.ErrForm
	}
	return do, api.OK
}

// whole is an array of a shape, made of pairs of items. First it looks for the errors that are to be seen without reckoning: if the first one of these is Limit, that is what is told whatever numbers are too great ahead of it, and no work is done for it.
func whole(glyph rune, do dyad, shape []int, pair pairs) (api.Array, api.Errno) {
	look := pairing{glyph: glyph, do: func(x, y api.Rat) (api.Rat, api.Errno) { return unreckoned(glyph, x, y) }}
	if _, e := look.through(shape, pair); e == api.Limit {
		return api.Array{}, e
	}
	work := pairing{glyph: glyph, do: do, kept: api.MaxCells}
	return work.through(shape, pair)
}

// unreckoned has the Domain error of a function of two numbers, and tells nothing else of it.
func unreckoned(glyph rune, x, y api.Rat) (api.Rat, api.Errno) {
	if hasNone(glyph, &x, &y) {
		return api.Rat{}, api.Domain
	}
	return api.Rat{}, api.OK
}

// pairsOf are those of two arrays that go together.
func pairsOf(a, b api.Array) pairs {
	return func(i int) (x, y *api.Item) {
		return &a.Items[i%len(a.Items)], &b.Items[i%len(b.Items)]
	}
}

// through is an array of a shape, made of as many pairs of items. Its items' errors go ahead of its own: that it has too many cells. It is no deeper than the deeper one of those that it is made of.
func (p *pairing) through(shape []int, pair pairs) (api.Array, api.Errno) {
	size, _ := array.Size(shape)
	if size == 0 {
		p.cells++
		return empty(shape), api.OK
	}
	from := p.cells
	out := api.Array{Shape: copyOf(shape)}
	for i := range size {
		x, y := pair(i)
		p.cells++
		item, e := p.items(x, y)
		if e != api.OK {
			return api.Array{}, e
		}
		if p.cells <= p.kept {
			out.Items = append(out.Items, item)
		}
	}
	if p.cells-from > api.MaxCells {
		return api.Array{}, api.Limit
	}
	return out, api.OK
}

func (p *pairing) items(x, y *api.Item) (api.Item, api.Errno) {
	switch {
	case x.Kind == api.Box || y.Kind == api.Box:
		return p.boxes(opened(x), opened(y))
	case x.Kind == api.Number && y.Kind == api.Number:
		return numbered(p.numbers(x.Num, y.Num))
	case p.glyph != '=' && p.glyph != '≠':
		return api.Item{}, api.Domain
	}
	alike := x.Kind == y.Kind && x.Char == y.Char
	return numbered(truth(alike == (p.glyph == '=')), api.OK)
}

// numbers reckons what is kept, and what may be too great.
func (p *pairing) numbers(x, y api.Rat) (api.Rat, api.Errno) {
	if p.cells > p.kept && isSmall(p.glyph, &x, &y) {
		return unreckoned(p.glyph, x, y)
	}
	return p.do(x, y)
}

func (p *pairing) boxes(a, b api.Array) (api.Item, api.Errno) {
	shape, e := together(a, b)
	if e != api.OK {
		return api.Item{}, e
	}
	return boxed(p.through(shape, pairsOf(a, b)))
}

// together is the shape of what comes of two arrays.
func together(a, b api.Array) ([]int, api.Errno) {
	switch {
	case slices.Equal(a.Shape, b.Shape):
		return a.Shape, api.OK
	case isOne(a) && (!isOne(b) || len(a.Shape) < len(b.Shape)):
		return b.Shape, api.OK
	case isOne(b):
		return a.Shape, api.OK
	case len(a.Shape) != len(b.Shape):
		return nil, api.Rank
	}
	return nil, api.Length
}
