package scalar_test

import (
	"math"
	"slices"
	"testing"

	"glyph/api"
	"glyph/array"
	"glyph/rat"
	"glyph/scalar"
)

func at(io int) api.Env {
	return api.Env{IO: io, CT: rat.OfInt(0)}
}

func TestDyadicAt(t *testing.T) { // P5.3
	matrix := arr([]int{2, 3}, numItems(1, 2, 3, 4, 5, 6)...)
	cube := arr([]int{2, 2, 2}, numItems(1, 2, 3, 4, 5, 6, 7, 8)...)
	cases := []struct {
		a     api.Array
		glyph rune
		axes  []int // from 1 on
		b     api.Array
		want  api.Array
	}{
		{matrix, '+', []int{1}, nums(10, 20), arr([]int{2, 3}, numItems(11, 12, 13, 24, 25, 26)...)},
		{matrix, '+', []int{2}, nums(10, 20, 30), arr([]int{2, 3}, numItems(11, 22, 33, 14, 25, 36)...)},
		{nums(10, 20), '-', []int{1}, matrix, arr([]int{2, 3}, numItems(9, 8, 7, 16, 15, 14)...)},
		{matrix, '-', []int{1}, nums(10, 20), arr([]int{2, 3}, numItems(-9, -8, -7, -16, -15, -14)...)},
		{matrix, '×', nil, one(num(2)), arr([]int{2, 3}, numItems(2, 4, 6, 8, 10, 12)...)},
		{one(num(2)), '×', []int{}, nums(1, 2), nums(2, 4)},
		{one(char('a')), '=', nil, text("abca"), nums(1, 0, 0, 1)},
		{cube, '+', []int{1, 2}, arr([]int{2, 2}, numItems(10, 20, 30, 40)...), arr([]int{2, 2, 2}, numItems(11, 12, 23, 24, 35, 36, 47, 48)...)},
		{cube, '+', []int{1, 3}, arr([]int{2, 2}, numItems(10, 20, 30, 40)...), arr([]int{2, 2, 2}, numItems(11, 22, 13, 24, 35, 46, 37, 48)...)},
		{cube, '+', []int{2, 3}, arr([]int{2, 2}, numItems(10, 20, 30, 40)...), arr([]int{2, 2, 2}, numItems(11, 22, 33, 44, 15, 26, 37, 48)...)},
		{cube, '+', []int{2}, nums(10, 20), arr([]int{2, 2, 2}, numItems(11, 12, 23, 24, 15, 16, 27, 28)...)},
		{vec(boxed(nums(1, 2)), num(3)), '+', nil, one(boxed(nums(10, 20))), vec(boxed(nums(11, 22)), boxed(nums(13, 23)))},
		{none(char(' '), 0, 3), '+', []int{2}, nums(1, 2, 3), none(num(0), 0, 3)},
		{none(char(' '), 3, 0), '+', []int{1}, text("abc"), none(num(0), 3, 0)},
		{none(char(' '), 0), '+', []int{2}, none(boxed(nums(0)), 3, 0), none(num(0), 3, 0)},
		{arr([]int{1, 1, 1, 1, 1, 1, 1, 1}, num(5)), '+', []int{8}, nums(1), arr([]int{1, 1, 1, 1, 1, 1, 1, 1}, num(6))},
	}
	for k, c := range cases {
		for _, io := range []int{0, 1} {
			var axes []int
			for _, axis := range c.axes {
				axes = append(axes, axis-1+io)
			}
			a, b := roomy(c.a), roomy(c.b)
			room := append(slices.Clone(axes), 77)
			before := snapshot(a) + snapshot(b)
			got, e := scalar.DyadicAt(at(io), c.glyph, room[:len(axes)], a, b)
			expect(t, k, got, e, c.want, api.OK)
			apart(t, k, got, a, b, room)
			if snapshot(a)+snapshot(b) != before || !slices.Equal(room, append(slices.Clone(axes), 77)) {
				t.Error(k, "changed")
			}
		}
	}
}

// TestDyadicAtEachPlace holds each item against that of its own indices.
func TestDyadicAtEachPlace(t *testing.T) { // P5.3
	shape := []int{2, 3, 1, 4}
	great := arr(shape, numItems(sequence(24)...)...)
	for set := range 1 << len(shape) {
		var axes, lengths []int
		for k := range shape {
			if set>>k&1 == 1 {
				axes, lengths = append(axes, k), append(lengths, shape[k])
			}
		}
		if len(axes) == len(shape) {
			continue
		}
		small := arr(lengths, numItems(sequence(sizeOf(lengths))...)...)
		got, e := scalar.DyadicAt(at(0), '-', axes, great, small)
		if e != api.OK || !slices.Equal(got.Shape, shape) {
			t.Fatal(axes, got.Shape, e)
		}
		for i, item := range got.Items {
			index, rest := make([]int, len(shape)), i
			for k := len(shape) - 1; k >= 0; k-- {
				index[k], rest = rest%shape[k], rest/shape[k]
			}
			place := 0
			for k, axis := range axes {
				place = place*lengths[k] + index[axis]
			}
			if n, _ := rat.ToInt(item.Num); n != i-place {
				t.Error(axes, i, n)
			}
		}
	}
}

func TestDyadicAtErrors(t *testing.T) { // P5.3, P2, P1
	matrix, cube := arr([]int{2, 3}, numItems(1, 2, 3, 4, 5, 6)...), arr([]int{2, 2, 2}, numItems(1, 2, 3, 4, 5, 6, 7, 8)...)
	row := nums(1, 2, 3)
	square := arr([]int{2, 2}, numItems(1, 2, 3, 4)...)
	cases := []struct {
		io   int
		axes []int
		a, b api.Array
		e    api.Errno
	}{
		{1, []int{1}, row, nums(1, 2), api.Rank}, {1, []int{9}, row, row, api.Rank}, {1, nil, one(num(1)), one(num(1)), api.Rank}, {1, []int{1, 2}, matrix, matrix, api.Rank}, {1, []int{1}, nums(1), nums(2), api.Rank},
		{1, nil, matrix, row, api.Axis}, {1, []int{1, 2}, matrix, row, api.Axis}, {1, []int{1}, matrix, one(num(1)), api.Axis}, {1, []int{0}, matrix, row, api.Axis}, {1, []int{3}, matrix, row, api.Axis},
		{0, []int{-1}, matrix, row, api.Axis}, {0, []int{2}, matrix, row, api.Axis}, {1, []int{2, 2}, cube, square, api.Axis}, {1, []int{2, 1}, cube, square, api.Axis}, {1, []int{1, 4}, cube, square, api.Axis},
		{1, []int{0, 1}, cube, square, api.Axis}, {1, []int{math.MinInt}, matrix, row, api.Axis}, {1, []int{math.MaxInt}, matrix, row, api.Axis}, {0, []int{math.MinInt}, matrix, row, api.Axis},
		{math.MaxInt, []int{math.MinInt}, matrix, row, api.Axis}, {math.MinInt, []int{math.MaxInt}, matrix, row, api.Axis}, {math.MaxInt, []int{1}, matrix, row, api.Axis}, {math.MinInt, []int{0}, matrix, row, api.Axis},
		{1, []int{1}, matrix, row, api.Length}, {0, []int{0}, matrix, row, api.Length}, {1, []int{2}, matrix, nums(1), api.Length}, {1, []int{2}, matrix, text("ab"), api.Length}, {1, []int{2, 3}, cube, matrix, api.Length},
		{1, []int{2}, matrix, none(num(0), 0), api.Length}, {1, []int{2}, matrix, text("abc"), api.Domain},
	}
	for k, c := range cases {
		got, e := scalar.DyadicAt(at(c.io), '+', c.axes, c.a, c.b)
		expect(t, k, got, e, api.Array{}, c.e)
		got, e = scalar.DyadicAt(at(c.io), '+', c.axes, c.b, c.a)
		expect(t, k, got, e, api.Array{}, c.e)
	}
	for _, a := range append(wrongArrays(), row) {
		for _, glyph := range append(noGlyphs(), '~') {
			got, e := scalar.DyadicAt(api.Env{}, glyph, nil, a, row)
			expect(t, glyph, got, e, api.Array{}, api.ErrNone)
		}
	}
	for _, glyph := range dyadic {
		for _, a := range wrongArrays() {
			got, e := scalar.DyadicAt(plain(), glyph, []int{1}, a, row)
			expect(t, string(glyph), got, e, api.Array{}, api.ErrForm)
			got, e = scalar.DyadicAt(plain(), glyph, []int{1}, row, a)
			expect(t, string(glyph), got, e, api.Array{}, api.ErrForm)
		}
		for _, ct := range wrongNumbers() {
			got, e := scalar.DyadicAt(env(ct), glyph, []int{1}, row, row)
			expect(t, string(glyph), got, e, api.Array{}, api.ErrForm)
		}
	}
}

func TestDyadicAtLimit(t *testing.T) { // P5.3, P5
	for _, c := range []struct {
		long int
		e    api.Errno
	}{{128, api.OK}, {129, api.Limit}} {
		a, b := nums(sequence(c.long)...), one(boxed(nums(sequence(127)...)))
		got, e := scalar.DyadicAt(plain(), '+', nil, a, b)
		if e != c.e || e == api.OK && array.Cells(got) != api.MaxCells {
			t.Error(c, e)
		}
	}
	a := arr([]int{2, 2}, numItems(1, 2, 3, 0)...)
	for _, c := range []struct {
		b api.Array
		e api.Errno
	}{{vec(char('a'), boxed(nums(1, 2))), api.Domain}, {vec(boxed(arr([]int{0}, num(0))), char('a')), api.Domain}, {nums(1, 1025), api.Limit}, {nums(-1, 1025), api.Limit}, {nums(1, -1), api.Domain}} {
		got, e := scalar.DyadicAt(plain(), '*', []int{2}, a, c.b)
		expect(t, c.e, got, e, api.Array{}, c.e)
	}
}
