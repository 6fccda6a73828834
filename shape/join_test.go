package shape_test

import (
	"math"
	"slices"
	"testing"

	"glyph/api"
	"glyph/array"
	"glyph/shape"
)

func TestJoin(t *testing.T) { // P6.1
	matrix, row := counted(2, 3), nums(7, 8, 9)
	cube := counted(2, 2, 2)
	eight := []int{1, 1, 1, 1, 1, 1, 1, 1}
	run(t, []pairs{
		{one(num(1)), ',', one(char('a')), vec(num(1), char('a')), api.OK},
		{one(num(1)), '⍪', one(char('a')), vec(num(1), char('a')), api.OK},
		{one(boxed(nums(1, 2))), ',', one(num(3)), vec(boxed(nums(1, 2)), num(3)), api.OK},
		{nums(1, 2), ',', nums(3), nums(1, 2, 3), api.OK},
		{nums(1, 2), '⍪', nums(3), nums(1, 2, 3), api.OK},
		{nums(1, 2), ',', one(num(3)), nums(1, 2, 3), api.OK},
		{one(num(3)), ',', nums(1, 2), nums(3, 1, 2), api.OK},
		{none(char(' '), 0), ',', nums(1, 2), nums(1, 2), api.OK},
		{nums(1, 2), ',', none(char(' '), 0), nums(1, 2), api.OK},
		{none(char(' '), 0), ',', none(num(0), 0), none(char(' '), 0), api.OK},
		{none(num(0), 0), ',', none(char(' '), 0), none(num(0), 0), api.OK},
		{none(char(' '), 0), ',', one(num(3)), nums(3), api.OK},
		{one(num(3)), ',', none(char(' '), 0), nums(3), api.OK},
		{matrix, ',', nums(7, 8), arr([]int{2, 4}, numItems(1, 2, 3, 7, 4, 5, 6, 8)...), api.OK},
		{nums(7, 8), ',', matrix, arr([]int{2, 4}, numItems(7, 1, 2, 3, 8, 4, 5, 6)...), api.OK},
		{matrix, '⍪', row, arr([]int{3, 3}, numItems(1, 2, 3, 4, 5, 6, 7, 8, 9)...), api.OK},
		{row, '⍪', matrix, arr([]int{3, 3}, numItems(7, 8, 9, 1, 2, 3, 4, 5, 6)...), api.OK},
		{matrix, ',', one(num(0)), arr([]int{2, 4}, numItems(1, 2, 3, 0, 4, 5, 6, 0)...), api.OK},
		{one(num(0)), '⍪', matrix, arr([]int{3, 3}, numItems(0, 0, 0, 1, 2, 3, 4, 5, 6)...), api.OK},
		{matrix, ',', matrix, arr([]int{2, 6}, numItems(1, 2, 3, 1, 2, 3, 4, 5, 6, 4, 5, 6)...), api.OK},
		{matrix, '⍪', counted(1, 3), arr([]int{3, 3}, numItems(1, 2, 3, 4, 5, 6, 1, 2, 3)...), api.OK},
		{matrix, '⍪', none(char(' '), 0, 3), matrix, api.OK},
		{none(char(' '), 2, 0), ',', matrix, matrix, api.OK},
		{none(char(' '), 2, 0), ',', one(num(5)), arr([]int{2, 1}, num(5), num(5)), api.OK},
		{none(char(' '), 0, 3), ',', none(num(0), 0, 2), none(char(' '), 0, 5), api.OK},
		{none(num(0), 0, 3), ',', none(char(' '), 0), none(num(0), 0, 4), api.OK},
		{none(boxed(nums(0)), 0), ',', none(char(' '), 0, 3), none(boxed(nums(0)), 0, 4), api.OK},
		{one(boxed(nums(7, 8))), ',', none(char(' '), 0, 3), none(boxed(nums(0, 0)), 0, 4), api.OK},
		{none(char(' '), 0, 3), ',', one(num(5)), none(char(' '), 0, 4), api.OK},
		{cube, ',', counted(2, 2), arr([]int{2, 2, 3}, numItems(1, 2, 1, 3, 4, 2, 5, 6, 3, 7, 8, 4)...), api.OK},
		{cube, '⍪', one(boxed(nums(1))), arr([]int{3, 2, 2}, append(numItems(1, 2, 3, 4, 5, 6, 7, 8), slices.Repeat([]api.Item{boxed(nums(1))}, 4)...)...), api.OK},
		{arr(eight, num(1)), ',', arr(eight, num(2)), arr([]int{1, 1, 1, 1, 1, 1, 1, 2}, num(1), num(2)), api.OK},
		{arr(eight, num(1)), '⍪', arr(eight[1:], num(2)), arr([]int{2, 1, 1, 1, 1, 1, 1, 1}, num(1), num(2)), api.OK},
		{matrix, ',', row, api.Array{}, api.Length},
		{matrix, '⍪', nums(7, 8), api.Array{}, api.Length},
		{matrix, ',', counted(3, 2), api.Array{}, api.Length},
		{matrix, '⍪', counted(3, 2), api.Array{}, api.Length},
		{matrix, ',', nums(7), api.Array{}, api.Length},
		{matrix, ',', none(num(0), 0), api.Array{}, api.Length},
		{matrix, '⍪', none(num(0), 0, 2), api.Array{}, api.Length},
		{cube, ',', nums(1, 2), api.Array{}, api.Rank},
		{nums(1, 2), '⍪', cube, api.Array{}, api.Rank},
		{nums(1), ',', cube, api.Array{}, api.Rank},
		{nums(sequence(4095)...), ',', one(num(4096)), nums(sequence(4096)...), api.OK},
		{nums(sequence(4096)...), ',', one(num(0)), api.Array{}, api.Limit},
		{nums(sequence(2048)...), ',', nums(sequence(2049)...), api.Array{}, api.Limit},
		{none(num(0), 4096, 0), '⍪', none(num(0), 0), api.Array{}, api.Limit},
		{none(num(0), 4095, 0), '⍪', none(num(0), 0), none(num(0), 4096, 0), api.OK},
		{none(num(0), 4096, 4096, 0), ',', one(num(1)), api.Array{}, api.Limit},
		{none(num(0), 4096, 4096, 0), '⍪', none(num(0), 4096, 0), api.Array{}, api.Limit},
		{vec(boxed(nums(sequence(4095)...))), ',', vec(slices.Repeat([]api.Item{boxed(nums(sequence(4095)...))}, 3)...), vec(slices.Repeat([]api.Item{boxed(nums(sequence(4095)...))}, 4)...), api.OK},
		{vec(boxed(nums(sequence(4096)...))), ',', vec(slices.Repeat([]api.Item{boxed(nums(sequence(4095)...))}, 3)...), api.Array{}, api.Limit},
	})
	got, e := shape.Dyadic(env(1), ',', arr([]int{4, 1}, numItems(1, 2, 3, 4)...), one(boxed(nums(sequence(4096)...))))
	expect(t, "a scalar so often", got, e, api.Array{}, api.Limit)
	got, e = shape.Dyadic(env(1), ',', one(boxed(deep(api.MaxDepth-1))), one(num(1)))
	expect(t, "just so deep", got, e, vec(boxed(deep(api.MaxDepth-1)), num(1)), api.OK)
}

// joined is both arrays, one behind the other, as the document says.
func joined(axis int, a, b api.Array) api.Array {
	rank := max(len(a.Shape), len(b.Shape), 1)
	widened := func(a, other api.Array) api.Array {
		switch {
		case len(a.Shape) == rank:
			return a
		case len(a.Shape) > 0:
			return arr(slices.Insert(slices.Clone(a.Shape), axis, 1), a.Items...)
		case len(other.Shape) == 0:
			return vec(a.Items...)
		}
		lengths := with(other.Shape, axis, 1)
		return arr(lengths, slices.Repeat(a.Items, max(sizeOf(lengths), 1))...)
	}
	front, back := widened(a, b), widened(b, a)
	long := front.Shape[axis]
	return built(with(front.Shape, axis, long+back.Shape[axis]), array.Proto(a), func(index []int) api.Item {
		if index[axis] < long {
			return itemAt(front, index)
		}
		return itemAt(back, with(index, axis, index[axis]-long))
	})
}

// wantJoined is the error of two arrays, or both.
func wantJoined(axis int, a, b api.Array) (api.Array, api.Errno) {
	p, q := slices.Clone(a.Shape), slices.Clone(b.Shape)
	switch {
	case len(p) == 0 || len(q) == 0:
		return joined(axis, a, b), api.OK
	case len(p) == len(q)+1:
		q = slices.Insert(q, axis, 0)
	case len(q) == len(p)+1:
		p = slices.Insert(p, axis, 0)
	case len(p) != len(q):
		return api.Array{}, api.Rank
	}
	if !slices.Equal(with(p, axis, 0), with(q, axis, 0)) {
		return api.Array{}, api.Length
	}
	return joined(axis, a, b), api.OK
}

func TestJoinAlongEachAxis(t *testing.T) { // P6.1, P6.2, P3
	all := append(samples(), counted(2, 3, 2), counted(3, 2), counted(2, 2), counted(2), none(char(' '), 2, 0, 2))
	for _, a := range all {
		for _, b := range all {
			rank := max(len(a.Shape), len(b.Shape))
			for _, io := range []int{0, 1} {
				for axis := range rank {
					want, wantE := wantJoined(axis, a, b)
					for _, glyph := range ",⍪" {
						got, e := shape.DyadicAt(env(io), glyph, axis+io, a, b)
						expect(t, axis, got, e, want, wantE)
						apart(t, axis, got, a, b)
					}
				}
				for _, axis := range []int{io - 1, io + rank, math.MinInt, math.MaxInt} {
					got, e := shape.DyadicAt(env(io), ',', axis, a, b)
					expect(t, axis, got, e, api.Array{}, api.Axis)
				}
			}
			want, wantE := wantJoined(max(rank-1, 0), a, b)
			got, e := shape.Dyadic(env(1), ',', a, b)
			expect(t, "last", got, e, want, wantE)
			want, wantE = wantJoined(0, a, b)
			got, e = shape.Dyadic(env(1), '⍪', a, b)
			expect(t, "first", got, e, want, wantE)
		}
	}
}
