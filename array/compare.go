package array

import (
	"slices"
	"strings"

	"glyph/api"
	"glyph/rat"
)

// Match tells whether two arrays are the same.
func Match(a, b api.Array) bool {
	return Right(a) && Right(b) && same(a, b)
}

// same asks right arrays. The one item of an empty one is its prototype, so that counts as items do.
func same(a, b api.Array) bool {
	return slices.Equal(a.Shape, b.Shape) && slices.EqualFunc(a.Items, b.Items, sameItem)
}

// sameItem asks right items. Numbers are in lowest terms: the same ones have the same limbs.
func sameItem(i, j api.Item) bool {
	if i.Kind != j.Kind {
		return false
	}
	switch i.Kind {
	case api.Box:
		return same(i.Box[0], j.Box[0])
	case api.Char:
		return i.Char == j.Char
	}
	return i.Num.Below == j.Num.Below && slices.Equal(i.Num.Num, j.Num.Num) && slices.Equal(i.Num.Den, j.Num.Den)
}

// ToInt is the whole number that is an array's only item; false: there is none. A prototype is none.
func ToInt(a api.Array) (int, bool) {
	if len(a.Items) != 1 || !Right(a) || isEmpty(a) {
		return 0, false
	}
	return whole(a.Items[0])
}

// whole is an item that is a whole number which an int holds; false: it is not.
func whole(i api.Item) (int, bool) {
	if i.Kind != api.Number {
		return 0, false
	}
	return rat.ToInt(i.Num)
}

// ToInts are the whole numbers of a scalar or a vector; false: it has others.
func ToInts(a api.Array) ([]int, bool) {
	if len(a.Shape) > 1 || !Right(a) {
		return nil, false
	}
	if isEmpty(a) {
		return nil, true
	}
	var out []int
	for _, i := range a.Items {
		n, ok := whole(i)
		if !ok {
			return nil, false
		}
		out = append(out, n)
	}
	return out, true
}

// ToText is the characters of a scalar or a vector; false: it has others.
func ToText(a api.Array) (string, bool) {
	if len(a.Shape) > 1 || !Right(a) {
		return "", false
	}
	if isEmpty(a) {
		return "", true
	}
	var text strings.Builder
	for _, i := range a.Items {
		if i.Kind != api.Char {
			return "", false
		}
		text.WriteRune(i.Char)
	}
	return text.String(), true
}
