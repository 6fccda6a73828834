package shape_test

import (
	"math"
	"slices"
	"testing"

	"glyph/api"
	"glyph/array"
	"glyph/shape"
)

func TestDyadicAt(t *testing.T) { // P6.2, P3
	cube := counted(2, 3, 2)
	cases := []struct {
		a     api.Array
		axis  int // from 0 on
		glyph string
		b     api.Array
		want  api.Array
		e     api.Errno
	}{
		{counted(2, 2), 1, ",⍪", cube, arr([]int{2, 4, 2}, numItems(1, 2, 1, 2, 3, 4, 5, 6, 3, 4, 7, 8, 9, 10, 11, 12)...), api.OK},
		{cube, 1, ",⍪", one(num(0)), arr([]int{2, 4, 2}, numItems(1, 2, 3, 4, 5, 6, 0, 0, 7, 8, 9, 10, 11, 12, 0, 0)...), api.OK},
		{counted(2, 3), 0, ",⍪", counted(2, 3), arr([]int{4, 3}, numItems(1, 2, 3, 4, 5, 6, 1, 2, 3, 4, 5, 6)...), api.OK},
		{nums(0, 1, 2), 1, "/⌿", cube, arr([]int{2, 3, 2}, numItems(3, 4, 5, 6, 5, 6, 9, 10, 11, 12, 11, 12)...), api.OK},
		{one(num(0)), 1, "/⌿", cube, none(num(0), 2, 0, 2), api.OK},
		{nums(0, 1, 1, 1), 1, `\⍀`, cube, arr([]int{2, 4, 2}, numItems(0, 0, 1, 2, 3, 4, 5, 6, 0, 0, 7, 8, 9, 10, 11, 12)...), api.OK},
		{one(num(1)), 1, "⌽⊖", cube, arr([]int{2, 3, 2}, numItems(3, 4, 5, 6, 1, 2, 9, 10, 11, 12, 7, 8)...), api.OK},
		{one(num(1)), 0, "⌽⊖", cube, arr([]int{2, 3, 2}, numItems(7, 8, 9, 10, 11, 12, 1, 2, 3, 4, 5, 6)...), api.OK},
		{nums(1, 0), 1, "/⌿", cube, api.Array{}, api.Length},
		{nums(1, 0), 2, "/⌿", cube, arr([]int{2, 3, 1}, numItems(1, 3, 5, 7, 9, 11)...), api.OK},
		{nums(1, 0), 1, `\⍀`, cube, api.Array{}, api.Length},
		{nums(1, 2), 1, `\⍀`, cube, api.Array{}, api.Domain},
		{nums(-1), 1, "/⌿", cube, api.Array{}, api.Domain},
		{nums(1, 0), 1, "⌽⊖", cube, api.Array{}, api.Length},
		{text("a"), 1, "⌽⊖", cube, api.Array{}, api.Domain},
		{counted(2, 2), 1, `/⌿\⍀`, cube, api.Array{}, api.Rank},
		{nums(1, 2), 2, ",⍪", cube, api.Array{}, api.Rank},
		{counted(2, 3), 2, ",⍪", counted(2, 2, 2), api.Array{}, api.Length},
		{one(num(2000)), 1, "/⌿", cube, api.Array{}, api.Limit},
		{nums(1, 2), 3, ",⍪⌽⊖", cube, api.Array{}, api.Axis}, // Axis is named first
		{text("ab"), 3, `/⌿\⍀`, cube, api.Array{}, api.Axis},
		{counted(2, 2), -1, `/⌿\⍀`, cube, api.Array{}, api.Axis},
		{one(num(1)), 0, `,⍪/⌿\⍀⌽⊖`, one(num(1)), api.Array{}, api.Axis},
		{nums(1, 1), 0, `/⌿\⍀⌽⊖`, one(num(1)), api.Array{}, api.Axis},
		{nums(1, 1), 1, `,⍪/⌿\⍀⌽⊖`, nums(1, 1), api.Array{}, api.Axis},
		{counted(2, 2), 1, `/⌿\⍀⌽⊖`, nums(1, 1), api.Array{}, api.Axis},
	}
	for k, c := range cases {
		for _, io := range []int{0, 1} {
			for _, glyph := range c.glyph {
				a, b := roomy(c.a), roomy(c.b)
				before := snapshot(a) + snapshot(b)
				got, e := shape.DyadicAt(env(io), glyph, c.axis+io, a, b)
				expect(t, k, got, e, c.want, c.e)
				if snapshot(a)+snapshot(b) != before {
					t.Error(k, "changed")
				}
				apart(t, k, got, a, b)
			}
		}
	}
}

// TestAxisIsLastOrFirst holds those without an axis against those with it.
func TestAxisIsLastOrFirst(t *testing.T) { // P6.1, P6.2
	for _, b := range samples() {
		if len(b.Shape) == 0 {
			continue
		}
		last := len(b.Shape) - 1
		for _, c := range []struct {
			glyph rune
			axis  int
			a     api.Array
		}{
			{'⌽', last, one(num(2))}, {'⊖', 0, one(num(2))}, {'/', last, one(num(2))}, {'⌿', 0, one(num(2))}, {',', last, one(num(2))}, {'⍪', 0, one(num(2))},
			{'\\', last, nums(append([]int{0}, slices.Repeat([]int{1}, b.Shape[last])...)...)}, {'⍀', 0, nums(append([]int{0}, slices.Repeat([]int{1}, b.Shape[0])...)...)},
		} {
			want, wantE := shape.DyadicAt(env(0), c.glyph, c.axis, c.a, b)
			got, e := shape.Dyadic(env(0), c.glyph, c.a, b)
			if wantE != api.OK {
				t.Error(string(c.glyph), wantE)
			}
			expect(t, string(c.glyph), got, e, want, wantE)
		}
	}
}

func TestDyadicErrors(t *testing.T) { // P6.1, P6.2, P1, P2
	right := nums(1, 1)
	for _, a := range append(wrongArrays(), right) {
		for _, glyph := range noGlyphs() {
			got, e := shape.Dyadic(env(5), glyph, a, right)
			expect(t, glyph, got, e, api.Array{}, api.ErrNone)
			got, e = shape.DyadicAt(env(5), glyph, 99, right, a)
			expect(t, glyph, got, e, api.Array{}, api.ErrNone)
		}
		for _, glyph := range "⍴↑↓⍉" {
			got, e := shape.DyadicAt(env(5), glyph, 99, right, a)
			expect(t, glyph, got, e, api.Array{}, api.ErrNone)
		}
	}
	for _, glyph := range dyadic {
		for _, a := range wrongArrays() {
			got, e := shape.Dyadic(env(1), glyph, a, right)
			expect(t, string(glyph), got, e, api.Array{}, api.ErrForm)
			got, e = shape.Dyadic(env(1), glyph, right, a)
			expect(t, string(glyph), got, e, api.Array{}, api.ErrForm)
		}
		for _, io := range wrongOrigins() {
			got, e := shape.Dyadic(env(io), glyph, right, right)
			expect(t, string(glyph), got, e, api.Array{}, api.ErrForm)
		}
	}
	for _, glyph := range axial {
		for _, a := range wrongArrays() {
			got, e := shape.DyadicAt(env(1), glyph, 99, a, right)
			expect(t, string(glyph), got, e, api.Array{}, api.ErrForm)
			got, e = shape.DyadicAt(env(1), glyph, 99, right, a)
			expect(t, string(glyph), got, e, api.Array{}, api.ErrForm)
		}
		for _, io := range wrongOrigins() {
			got, e := shape.DyadicAt(env(io), glyph, io, right, right)
			expect(t, string(glyph), got, e, api.Array{}, api.ErrForm)
		}
		for _, axis := range []int{math.MinInt, -1, 0, 2, math.MaxInt} {
			got, e := shape.DyadicAt(env(1), glyph, axis, one(num(1)), right)
			expect(t, string(glyph), got, e, api.Array{}, api.Axis)
		}
	}
}

// TestWhatIsToldIsRight goes through all functions with all samples.
func TestWhatIsToldIsRight(t *testing.T) { // P6.7, P3
	all := samples()
	for _, a := range append(all, ints(), nums(2, 2), nums(2, 1), nums(1, 0, 1), nums(-1), one(num(-2))) {
		for _, b := range all {
			for _, glyph := range dyadic {
				got, e := shape.Dyadic(env(1), glyph, a, b)
				if e == api.OK && !array.Right(got) || e != api.OK && (got.Shape != nil || got.Items != nil) {
					t.Error(string(glyph), a, b, got, e)
				}
				apart(t, string(glyph), got, a, b)
			}
		}
	}
}
