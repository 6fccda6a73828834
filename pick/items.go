package pick

import (
	"slices"

	"glyph/api"
	"glyph/array"
	"glyph/rat"
)

// items are those of a right array; none of an empty one. They are not the caller's.
func items(a api.Array) []api.Item {
	if slices.Contains(a.Shape, 0) {
		return nil
	}
	return a.Items
}

// opened is the array that a right item is. It is gone through and not kept, so it needs no lists of its own.
func opened(i api.Item) api.Array {
	if i.Kind == api.Box {
		return i.Box[0]
	}
	return api.Array{Items: []api.Item{i}}
}

func number(n int) api.Item {
	return api.Item{Kind: api.Number, Num: rat.OfInt(n)}
}

// numbers are whole numbers as items.
func numbers(l []int) []api.Item {
	var out []api.Item
	for _, n := range l {
		out = append(out, number(n))
	}
	return out
}

// areNumbers tells whether all items of arrays are numbers.
func areNumbers(l ...api.Array) bool {
	for _, a := range l {
		for _, i := range items(a) {
			if i.Kind != api.Number {
				return false
			}
		}
	}
	return true
}

// areWhole tells whether items are whole numbers, however great.
func areWhole(l []api.Item) bool {
	for _, i := range l {
		if i.Kind != api.Number || !rat.IsInt(i.Num) {
			return false
		}
	}
	return true
}

// made is an array of right items, as many as its shape says; without items it has the prototype.
func made(shape []int, proto api.Item, l []api.Item) (api.Array, api.Errno) {
	if len(l) == 0 {
		return array.Make(shape, proto)
	}
	if cells(l) > api.MaxCells {
		return api.Array{}, api.Limit
	}
	return array.Make(shape, l...)
}

func vector(proto api.Item, l []api.Item) (api.Array, api.Errno) {
	return made([]int{len(l)}, proto, l)
}

// cells are how many items there are at all levels. They are counted up to where they are too many: one great item may stand there thousands of times.
func cells(l []api.Item) int {
	count := 0
	for _, i := range l {
		count++
		if i.Kind == api.Box {
			count += cells(i.Box[0].Items)
		}
		if count > api.MaxCells {
			break
		}
	}
	return count
}
