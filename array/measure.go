package array

import (
	"iter"
	"unicode/utf8"

	"glyph/api"
	"glyph/rat"
)

// Size is how many items a shape has.
func Size(shape []int) (int, api.Errno) {
	if len(shape) > api.MaxRank {
		return 0, api.Rank
	}
	least, most := 1, 1
	for _, n := range shape {
		least, most = min(least, n), max(most, n)
	}
	switch {
	case least < 0:
		return 0, api.Domain
	case most > api.MaxItems:
		return 0, api.Limit
	case least == 0:
		return 0, api.OK
	}
	return product(shape)
}

// product is that of lengths from 1 to MaxItems. It stops where it is too great, so it never goes round.
func product(shape []int) (int, api.Errno) {
	size := 1
	for _, n := range shape {
		if size *= n; size > api.MaxItems {
			return 0, api.Limit
		}
	}
	return size, api.OK
}

// measure is how deep and how great something is.
type measure struct {
	depth, cells int
}

// together is the measure of an array with items of these measures, one axis at least.
func together(parts iter.Seq[measure]) measure {
	whole := measure{depth: 1}
	for part := range parts {
		whole.depth = max(whole.depth, 1+part.depth)
		whole.cells += 1 + part.cells
	}
	return whole
}

// measured is an array's measure; false: it is not right. It goes so many levels down, and ends as soon as there are too many cells: an array that lies in itself has no end.
func measured(a api.Array, levels int) (measure, bool) {
	size, e := Size(a.Shape)
	if e != api.OK || len(a.Items) != max(size, 1) || levels < 1 {
		return measure{}, false
	}
	whole := measure{depth: 1, cells: len(a.Items)}
	for _, i := range a.Items {
		part, ok := measuredItem(i, levels-1)
		whole.depth = max(whole.depth, 1+part.depth)
		whole.cells += part.cells
		if !ok || whole.cells > api.MaxCells {
			return measure{}, false
		}
	}
	if isSimple(a) {
		whole.depth = 0
	}
	return whole, true
}

// measuredItem is the measure of what an item adds to its array's; false: it is not right.
func measuredItem(i api.Item, levels int) (measure, bool) {
	switch i.Kind {
	case api.Number:
		return measure{}, rat.Right(i.Num) && i.Char == 0 && len(i.Box) == 0
	case api.Char:
		return measure{}, utf8.ValidRune(i.Char) && isNone(i.Num) && len(i.Box) == 0
	case api.Box:
		if !isNone(i.Num) || i.Char != 0 || len(i.Box) != 1 || isSimple(i.Box[0]) {
			return measure{}, false
		}
		return measured(i.Box[0], levels)
	}
	return measure{}, false
}

// measuredItems are the measures of items, each by itself; false: one is not right.
func measuredItems(items []api.Item) ([]measure, bool) {
	var out []measure
	for _, i := range items {
		m, ok := measuredItem(i, api.MaxDepth)
		if !ok {
			return nil, false
		}
		out = append(out, m)
	}
	return out, true
}

// isNone tells whether a number is the zero value.
func isNone(r api.Rat) bool {
	return !r.Below && len(r.Num) == 0 && len(r.Den) == 0
}

// isSimple asks an array that need not be right.
func isSimple(a api.Array) bool {
	return len(a.Shape) == 0 && len(a.Items) == 1 && (a.Items[0].Kind == api.Number || a.Items[0].Kind == api.Char)
}

// isEmpty asks an array that is right.
func isEmpty(a api.Array) bool {
	size, _ := Size(a.Shape)
	return size == 0
}

// Right tells whether an array is one.
func Right(a api.Array) bool {
	_, ok := measured(a, api.MaxDepth)
	return ok
}

// Depth is how many levels an array has.
func Depth(a api.Array) int {
	m, _ := measured(a, api.MaxDepth)
	return m.depth
}

// Cells is how many items an array has at all levels.
func Cells(a api.Array) int {
	m, _ := measured(a, api.MaxDepth)
	return m.cells
}

// IsSimple tells whether an array is a simple scalar.
func IsSimple(a api.Array) bool {
	return isSimple(a) && Right(a)
}
