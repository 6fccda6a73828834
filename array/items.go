package array

import (
	"slices"

	"glyph/api"
	"glyph/rat"
)

// Items are the items of an array; none of an empty one.
func Items(a api.Array) []api.Item {
	if !Right(a) || isEmpty(a) {
		return nil
	}
	return each(copyOf, slices.Values(a.Items))
}

// Enclose is the item that holds an array.
func Enclose(a api.Array) api.Item {
	switch {
	case !Right(a):
		return api.Item{}
	case isSimple(a):
		return copyOf(a.Items[0])
	}
	return box(through(copyOf, a))
}

// Open is the array that an item is.
func Open(i api.Item) api.Array {
	if _, ok := measuredItem(i, api.MaxDepth); !ok {
		return api.Array{}
	}
	if i.Kind == api.Box {
		return through(copyOf, i.Box[0])
	}
	return scalar(copyOf(i))
}

// Type is an array with all items their types.
func Type(a api.Array) api.Array {
	if !Right(a) {
		return api.Array{}
	}
	return through(typeOf, a)
}

// Proto is an array's prototype as an item.
func Proto(a api.Array) api.Item {
	if !Right(a) {
		return api.Item{}
	}
	return typeOf(a.Items[0])
}

// Copy is the same array with lists of its own.
func Copy(a api.Array) api.Array {
	if !Right(a) {
		return api.Array{}
	}
	return through(copyOf, a)
}

// through is a right array with each item what some work makes of it.
func through(work func(api.Item) api.Item, a api.Array) api.Array {
	return api.Array{Shape: copyList(a.Shape), Items: each(work, slices.Values(a.Items))}
}

// copyOf is a right item again. What plays no part in its kind is left out, so that it is the zero value even if an empty list was there.
func copyOf(i api.Item) api.Item {
	switch i.Kind {
	case api.Box:
		return box(through(copyOf, i.Box[0]))
	case api.Char:
		return character(i.Char)
	}
	return number(api.Rat{Below: i.Num.Below, Num: copyList(i.Num.Num), Den: copyList(i.Num.Den)})
}

// typeOf is the type of a right item.
func typeOf(i api.Item) api.Item {
	switch i.Kind {
	case api.Box:
		return box(through(typeOf, i.Box[0]))
	case api.Char:
		return character(blank)
	}
	return number(rat.OfInt(0))
}

func copyList[T any](l []T) []T {
	return append([]T(nil), l...)
}
