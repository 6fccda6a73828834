package array_test

import (
	"math"
	"slices"
	"testing"

	"glyph/api"
	"glyph/array"
	"glyph/rat"
)

func TestMatch(t *testing.T) { // P3.4, P3.8
	all := fewSamples()
	for _, a := range all {
		for _, b := range all {
			got := array.Match(a, b)
			if got != alike(a, b) || got != array.Match(b, a) {
				t.Error(a, b, got)
			}
		}
		if !array.Match(a, array.Copy(a)) {
			t.Error("Copy", a)
		}
	}
	for _, a := range samples() {
		if !array.Match(a, a) {
			t.Error("itself", a.Shape)
		}
	}
}

func TestMatchParts(t *testing.T) { // P3.4, P3.8
	half := arr(nil, frac(1, 2))
	below := arr(nil, api.Item{Kind: api.Number, Num: api.Rat{Below: true, Num: []uint32{1}, Den: []uint32{2}}})
	other := [][2]api.Array{
		{nums(1), arr(nil, num(1))}, {nums(1), arr([]int{1, 1}, num(1))}, {arr([]int{2, 3}, sequence(6)...), arr([]int{3, 2}, sequence(6)...)},
		{half, below}, {half, arr(nil, frac(1, 3))}, {half, arr(nil, frac(3, 2))}, {arr(nil, num(48)), arr(nil, char('0'))}, {nums(0), text(0)},
		{emptyText(), arr([]int{0}, num(0))}, {arr([]int{0, 2}, num(0)), arr([]int{0, 3}, num(0))}, {emptyText(), arr([]int{0}, boxed(nums(0)))},
		{vec(boxed(nums(1, 2))), vec(boxed(nums(1, 3)))}, {vec(boxed(nums(1))), vec(num(1))}, {vec(boxed(emptyText())), vec(boxed(arr([]int{0}, num(0))))},
		{nums(1, 2, 3), nums(1, 2, 4)}, {nums(1, 2, 3), nums(0, 2, 3)}, {nums(1, 2), nums(1, 2, 3)},
	}
	for _, p := range other {
		if array.Match(p[0], p[1]) || array.Match(p[1], p[0]) {
			t.Error(p)
		}
	}
	loose := api.Array{Shape: []int{}, Items: []api.Item{{Kind: api.Char, Char: 'a', Num: api.Rat{Num: []uint32{}}, Box: []api.Array{}}}}
	if !array.Match(loose, arr(nil, char('a'))) || !array.Match(arr(nil, char('a')), loose) {
		t.Error("an empty list is as nil")
	}
}

func TestMatchOfWrongOnes(t *testing.T) { // P3.4, P3.8
	one := rat.OfInt(1)
	wrong := []api.Item{
		{Kind: api.Char, Char: 'a', Num: one}, {Kind: api.Char, Char: 'a', Box: []api.Array{nums(1)}}, {Kind: api.Number, Num: one, Char: 'a'},
		{Kind: api.Number, Num: one, Box: []api.Array{nums(1)}}, {Kind: api.Box, Box: []api.Array{nums(1), nums(1)}}, {Kind: api.Box, Box: []api.Array{nums(1)}, Char: 'a'},
	}
	for _, i := range wrong { // but for what may not be there, each is one of these
		for _, right := range []api.Item{char('a'), num(1), boxed(nums(1))} {
			if array.Match(vec(i), vec(right)) || array.Match(vec(right), vec(i)) {
				t.Error(i, right)
			}
		}
	}
}

func TestToInt(t *testing.T) { // P3.4
	for _, n := range []int{0, 1, -1, 77, math.MaxInt, math.MinInt} {
		for _, shape := range [][]int{nil, {}, {1}, {1, 1}, {1, 1, 1, 1, 1, 1, 1, 1}} {
			if got, ok := array.ToInt(arr(shape, num(n))); got != n || !ok {
				t.Error(n, shape, got, ok)
			}
		}
	}
	none := []api.Array{
		nums(1, 2), arr([]int{2, 1}, num(1), num(2)), arr(nil, char('1')), text('1'), arr(nil, frac(1, 2)), arr(nil, boxed(nums(1))), vec(boxed(nums(1))),
		arr(nil, tooGreat(false, 0)), arr(nil, tooGreat(true, 1)),
	}
	for _, a := range append(none, empties()...) {
		if got, ok := array.ToInt(a); got != 0 || ok {
			t.Error(a, got, ok)
		}
	}
}

// tooGreat is 2^63 and so much more: the first number that an int does not hold, below 0 or not.
func tooGreat(below bool, more uint32) api.Item {
	return api.Item{Kind: api.Number, Num: api.Rat{Below: below, Num: []uint32{more, 1 << 31}, Den: []uint32{1}}}
}

func TestToInts(t *testing.T) { // P3.4, P3
	long := make([]int, api.MaxItems)
	for _, l := range [][]int{{1}, {1, -2, 3}, {math.MaxInt, math.MinInt, 0}, long} {
		a := nums(l...)
		got, ok := array.ToInts(a)
		if !slices.Equal(got, l) || !ok {
			t.Error(l, got, ok)
		}
		apart(t, "ToInts", []any{a}, got)
	}
	if got, ok := array.ToInts(arr(nil, num(5))); !slices.Equal(got, []int{5}) || !ok {
		t.Error("a scalar", got, ok)
	}
	for _, proto := range []api.Item{num(0), char(' '), boxed(nums(0))} {
		if got, ok := array.ToInts(arr([]int{0}, proto)); len(got) != 0 || !ok {
			t.Error("an empty vector", proto, got, ok)
		}
	}
	none := []api.Array{
		arr([]int{1, 1}, num(1)), arr([]int{0, 2}, num(0)), arr([]int{2, 2}, sequence(4)...), arr(nil, char('1')), arr(nil, frac(1, 2)), arr(nil, boxed(nums(1))),
		vec(num(1), char('1')), vec(num(1), frac(1, 2)), vec(num(1), boxed(nums(1))), vec(num(1), tooGreat(false, 0)), vec(tooGreat(true, 1), num(1)),
	}
	for _, a := range none {
		if got, ok := array.ToInts(a); len(got) != 0 || ok {
			t.Error(a, got, ok)
		}
	}
	if n, ok := array.ToInt(arr(nil, tooGreat(true, 0))); n != math.MinInt || !ok {
		t.Error("the least int", n, ok)
	}
}

func TestToText(t *testing.T) { // P3.4
	for _, s := range []string{"", "a", "aé⍵", "it's", "\x00\n\t", "\uFFFD", "\U0010FFFF"} {
		if got, ok := array.ToText(array.Text(s)); got != s || !ok {
			t.Error(s, got, ok)
		}
	}
	if got, ok := array.ToText(arr(nil, char('⍵'))); got != "⍵" || !ok {
		t.Error("a scalar", got, ok)
	}
	for _, proto := range []api.Item{num(0), char(' '), boxed(nums(0))} {
		if got, ok := array.ToText(arr([]int{0}, proto)); got != "" || !ok {
			t.Error("an empty vector", proto, got, ok)
		}
	}
	none := []api.Array{
		arr([]int{1, 1}, char('a')), arr([]int{0, 2}, char(' ')), arr([]int{2, 0}, char(' ')), arr(nil, num(1)), nums(97), vec(char('a'), num(1)), vec(num(1), char('a')),
		vec(char('a'), boxed(text('b'))), arr(nil, boxed(text('a', 'b'))),
	}
	for _, a := range none {
		if got, ok := array.ToText(a); got != "" || ok {
			t.Error(a, got, ok)
		}
	}
}

func TestNumbersThereAndBack(t *testing.T) { // P3.4
	for _, n := range []int{0, 5, -5, math.MaxInt, math.MinInt} {
		if got, ok := array.ToInt(array.Int(n)); got != n || !ok {
			t.Error(n, got, ok)
		}
		if got, ok := array.ToInt(array.Rat(rat.OfInt(n))); got != n || !ok {
			t.Error(n, got, ok)
		}
		if got, ok := array.ToInts(array.Ints(n, 1)); !slices.Equal(got, []int{n, 1}) || !ok {
			t.Error(n, got, ok)
		}
	}
}
