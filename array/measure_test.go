package array_test

import (
	"math"
	"slices"
	"testing"

	"glyph/api"
	"glyph/array"
	"glyph/rat"
)

func TestSize(t *testing.T) { // P3.2, P5
	ones := []int{1, 1, 1, 1, 1, 1, 1, 1}
	cases := []struct {
		shape []int
		size  int
		e     api.Errno
	}{
		{nil, 1, api.OK}, {[]int{}, 1, api.OK}, {[]int{1}, 1, api.OK}, {[]int{7}, 7, api.OK}, {[]int{2, 3, 4}, 24, api.OK}, {ones, 1, api.OK},
		{[]int{0}, 0, api.OK}, {[]int{0, 0}, 0, api.OK}, {[]int{5, 0, 7}, 0, api.OK}, {[]int{4096, 4096, 0}, 0, api.OK}, {[]int{0, 4096, 4096}, 0, api.OK},
		{[]int{4096}, 4096, api.OK}, {[]int{64, 64}, 4096, api.OK}, {[]int{4096, 1, 1}, 4096, api.OK}, {[]int{2, 2, 2, 2, 4, 4, 4, 4}, 4096, api.OK},
		{[]int{4097}, 0, api.Limit}, {[]int{17, 241}, 0, api.Limit}, {[]int{64, 65}, 0, api.Limit}, {[]int{2, 4096}, 0, api.Limit}, {[]int{4096, 2}, 0, api.Limit},
		{[]int{0, 4097}, 0, api.Limit}, {[]int{4097, 0}, 0, api.Limit}, {[]int{math.MaxInt, 0}, 0, api.Limit}, {[]int{math.MaxInt, math.MaxInt}, 0, api.Limit},
		{[]int{4096, 4096, 4096, 4096, 4096, 16}, 0, api.Limit}, {[]int{4096, 4096, 4096, 4096, 4096, 4096, 4096, 4096}, 0, api.Limit},
		{[]int{-1}, 0, api.Domain}, {[]int{-1, -1}, 0, api.Domain}, {[]int{0, -1}, 0, api.Domain}, {[]int{-1, 0}, 0, api.Domain}, {[]int{math.MinInt}, 0, api.Domain},
		{[]int{4097, -1}, 0, api.Domain}, {[]int{-1, 4097}, 0, api.Domain}, {[]int{4096, 4096, -1}, 0, api.Domain},
		{append(slices.Clone(ones), 1), 0, api.Rank}, {append(slices.Clone(ones), -1), 0, api.Rank}, {append(slices.Clone(ones), 0), 0, api.Rank}, {make([]int, 1000), 0, api.Rank},
		{append(slices.Clone(ones), 5000), 0, api.Rank},
	}
	for _, c := range cases {
		before := slices.Clone(c.shape)
		if size, e := array.Size(c.shape); size != c.size || e != c.e || !slices.Equal(before, c.shape) {
			t.Error(c, size, e)
		}
	}
}

func TestRight(t *testing.T) { // P3.3
	for k, a := range samples() {
		if !array.Right(a) {
			t.Error(k, a.Shape)
		}
	}
	for k, a := range wrongArrays() {
		if array.Right(a) {
			t.Error(k, a.Shape)
		}
	}
	odd := []api.Array{
		arr([]int{0}, num(5)), // no type of its own, and right all the same
		arr([]int{0}, boxed(nums(1, 2))),
		vec(api.Item{Kind: api.Number, Num: rat.OfInt(1), Box: []api.Array{}}),
		vec(api.Item{Kind: api.Char, Char: 'a', Num: api.Rat{Num: []uint32{}, Den: []uint32{}}}),
		vec(api.Item{Kind: api.Number, Num: api.Rat{Num: []uint32{}, Den: []uint32{1}}}),
	}
	for k, a := range odd {
		if !array.Right(a) {
			t.Error("odd", k)
		}
	}
}

func TestDepthAndCells(t *testing.T) { // P3.3
	for k, a := range samples() {
		if d, c := array.Depth(a), array.Cells(a); d != countDepth(a) || c != countCells(a) {
			t.Error(k, d, c)
		}
	}
	cases := []struct {
		a            api.Array
		depth, cells int
	}{
		{arr(nil, num(5)), 0, 1}, {arr(nil, char('a')), 0, 1}, {nums(5), 1, 1}, {nums(1, 2, 3), 1, 3}, {arr([]int{1, 1}, num(1)), 1, 1},
		{vec(num(1), boxed(nums(1, 2))), 2, 4}, {arr(nil, boxed(nums(1, 2))), 2, 3}, {arr(nil, boxed(arr(nil, boxed(nums(1))))), 3, 3},
		{emptyText(), 1, 1}, {arr([]int{0, 3}, num(0)), 1, 1}, {arr([]int{0}, boxed(nums(0, 0))), 2, 3}, {vec(boxed(emptyText()), num(1)), 2, 3},
		{deep(api.MaxDepth), 16, 17}, {great(api.MaxCells), 2, 16384},
	}
	for _, c := range cases {
		if d, n := array.Depth(c.a), array.Cells(c.a); d != c.depth || n != c.cells {
			t.Error(c, d, n)
		}
	}
}

func TestIsSimple(t *testing.T) { // P3.3
	for k, a := range samples() {
		if array.IsSimple(a) != simple(a) {
			t.Error(k, a)
		}
	}
	if !array.IsSimple(arr([]int{}, char('a'))) || array.IsSimple(nums(1)) || array.IsSimple(arr(nil, boxed(nums(1)))) {
		t.Error("simple")
	}
}

func TestWrongArrays(t *testing.T) { // P3.3, P3.4, P1, P2
	for k, a := range wrongArrays() {
		if array.Depth(a) != 0 || array.Cells(a) != 0 || array.IsSimple(a) {
			t.Error(k, "measures")
		}
		if len(array.Items(a)) != 0 || !isZeroItem(array.Enclose(a)) || !isZeroItem(array.Proto(a)) {
			t.Error(k, "items")
		}
		if !isZero(array.Type(a)) || !isZero(array.Copy(a)) {
			t.Error(k, "arrays")
		}
		if n, ok := array.ToInt(a); n != 0 || ok {
			t.Error(k, "ToInt", n, ok)
		}
		if l, ok := array.ToInts(a); len(l) != 0 || ok {
			t.Error(k, "ToInts", l, ok)
		}
		if s, ok := array.ToText(a); s != "" || ok {
			t.Error(k, "ToText", s, ok)
		}
		if array.Match(a, a) || array.Match(a, nums(1)) || array.Match(nums(1), a) {
			t.Error(k, "Match")
		}
	}
	for k, i := range wrongItems() {
		if !isZero(array.Open(i)) {
			t.Error(k, "Open")
		}
	}
	for k, i := range []api.Item{boxed(looped()), boxed(woven())} {
		if !isZero(array.Open(i)) {
			t.Error(k, "Open of what has no end")
		}
	}
}
