package pick

import (
	"cmp"
	"slices"

	"glyph/api"
	"glyph/array"
	"glyph/rat"
)

// Order compares two items: numbers, then characters, then boxes.
func Order(x, y api.Item) int {
	if !isRight(x) || !isRight(y) {
		return 0
	}
	return order(x, y)
}

// isRight tells whether an item is right: what is not opens to an array without its one item.
func isRight(i api.Item) bool {
	return len(array.Open(i).Items) > 0
}

// order compares right items. Their kinds are numbered in the order that they have.
func order(x, y api.Item) int {
	switch {
	case x.Kind != y.Kind:
		return cmp.Compare(x.Kind, y.Kind)
	case x.Kind == api.Box:
		return orderOfArrays(x.Box[0], y.Box[0])
	case x.Kind == api.Char:
		return cmp.Compare(x.Char, y.Char)
	}
	return rat.Compare(x.Num, y.Num)
}

// orderOfArrays compares right arrays. Of empty ones the prototypes count as items do.
func orderOfArrays(a, b api.Array) int {
	if axes := cmp.Compare(len(a.Shape), len(b.Shape)); axes != 0 {
		return axes
	}
	if lengths := slices.Compare(a.Shape, b.Shape); lengths != 0 {
		return lengths
	}
	return slices.CompareFunc(a.Items, b.Items, order)
}
