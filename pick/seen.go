package pick

import (
	"slices"
	"strconv"
	"unicode/utf8"

	"glyph/api"
	"glyph/array"
)

// seen are the first places of items by their texts, which are the same just of items that are.
type seen map[string]int

// add tells whether an item is new, and keeps its place then.
func (s seen) add(i api.Item, place int) bool {
	text := string(appendItem(nil, i))
	if _, known := s[text]; known {
		return false
	}
	s[text] = place
	return true
}

// place is where an item was seen first; false: nowhere.
func (s seen) place(i api.Item) (int, bool) {
	place, known := s[string(appendItem(nil, i))]
	return place, known
}

func seenIn(l []api.Item) seen {
	out := seen{}
	for place, i := range l {
		out.add(i, place)
	}
	return out
}

// appendItem writes a right item so that no other one is written alike. (What a number looks like in decimal costs more than its limbs.)
func appendItem(out []byte, i api.Item) []byte {
	switch i.Kind {
	case api.Box:
		return appendArray(append(out, '('), i.Box[0])
	case api.Char:
		return utf8.AppendRune(append(out, '\''), i.Char)
	}
	if i.Num.Below {
		out = append(out, '-')
	}
	out = appendWholes(out, i.Num.Num)
	return appendWholes(out, i.Num.Den)
}

// appendArray writes the prototype of an empty array, too.
func appendArray(out []byte, a api.Array) []byte {
	out = appendWholes(out, a.Shape)
	for _, i := range a.Items {
		out = appendItem(out, i)
	}
	return out
}

func appendWholes[T int | uint32](out []byte, l []T) []byte {
	for _, n := range l {
		out = append(strconv.AppendUint(out, uint64(n), 36), ' ')
	}
	return append(out, ';')
}

func unique(a api.Array) (api.Array, api.Errno) {
	if len(a.Shape) > 1 {
		return api.Array{}, api.Rank
	}
	return vector(array.Proto(a), withNew(nil, items(a)))
}

func united(a, b api.Array) (api.Array, api.Errno) {
	if len(a.Shape) > 1 || len(b.Shape) > 1 {
		return api.Array{}, api.Rank
	}
	return vector(array.Proto(a), withNew(items(a), items(b)))
}

// withNew are items, and those of others that are not among them, each once.
func withNew(l, others []api.Item) []api.Item {
	out, known := slices.Clone(l), seenIn(l)
	for _, i := range others {
		if known.add(i, len(out)) {
			out = append(out, i)
		}
	}
	return out
}

func without(a, b api.Array) (api.Array, api.Errno) {
	if len(a.Shape) > 1 {
		return api.Array{}, api.Rank
	}
	known := seenIn(items(b))
	var out []api.Item
	for _, i := range items(a) {
		if _, is := known.place(i); !is {
			out = append(out, i)
		}
	}
	return vector(array.Proto(a), out)
}

// found tells of each item of b the first place in a; behind a's last one, if there is none.
func found(origin int, a, b api.Array) (api.Array, api.Errno) {
	if len(a.Shape) != 1 {
		return api.Array{}, api.Rank
	}
	known := seenIn(items(a))
	var out []int
	for _, i := range items(b) {
		place, is := known.place(i)
		if !is {
			place = a.Shape[0]
		}
		out = append(out, origin+place)
	}
	return made(b.Shape, number(0), numbers(out))
}

func among(a, b api.Array) (api.Array, api.Errno) {
	known := seenIn(items(b))
	var out []int
	for _, i := range items(a) {
		bit := 0
		if _, is := known.place(i); is {
			bit = 1
		}
		out = append(out, bit)
	}
	return made(a.Shape, number(0), numbers(out))
}
