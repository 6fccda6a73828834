package oper

import (
	"glyph/api"
	"glyph/array"
)

func areRight(l []api.Array) bool {
	for _, a := range l {
		if !array.Right(a) {
			return false
		}
	}
	return true
}

// opened is the array that a right item is. It is gone through and not kept, so it needs no lists of its own.
func opened(i api.Item) api.Array {
	if i.Kind == api.Box {
		return i.Box[0]
	}
	return api.Array{Items: []api.Item{i}}
}

// gathering is an array of a shape that is made of arrays, each enclosed. That all of them together are too great is told at last: the errors of those that come later go ahead of it. What is more than may be is counted, and not kept.
type gathering struct {
	shape []int
	items []api.Item
	cells int
}

// newGathering is one of a shape that has items, and not too many.
func newGathering(shape []int) *gathering {
	return &gathering{shape: shape, items: make([]api.Item, sizeOf(shape))}
}

// put puts an array at a place; or tells that it cannot be enclosed.
func (g *gathering) put(place int, a api.Array) api.Errno {
	g.cells++
	item := a.Items[0]
	if !array.IsSimple(a) {
		if e := enclosable(a); e != api.OK {
			return e
		}
		g.cells += array.Cells(a)
		item = api.Item{Kind: api.Box, Box: []api.Array{a}}
	}
	if g.cells <= api.MaxCells {
		g.items[place] = item
	}
	return api.OK
}

// enclosable is Limit, if an array would be too deep or too great in a box.
func enclosable(a api.Array) api.Errno {
	if array.Depth(a) >= api.MaxDepth || array.Cells(a) >= api.MaxCells {
		return api.Limit
	}
	return api.OK
}

// array is what was put there, when there is something at each place.
func (g *gathering) array() (api.Array, api.Errno) {
	if g.cells > api.MaxCells {
		return api.Array{}, api.Limit
	}
	return array.Make(g.shape, g.items...)
}
