package shape_test

import (
	"math"
	"slices"
	"strings"
	"testing"

	"glyph/api"
	"glyph/array"
	"glyph/lex"
	"glyph/shape"
)

func noGlyphs() []rune {
	return []rune{-1, math.MinInt32, math.MaxInt32, 0, 0xD800, 0xFFFD, 0x10FFFF, 0x110000, ' ', 'a', '0', '+', '=', '⍳', '⊂', '∊', '⍋', 'ρ', '∕', '⌹', '⊤'}
}

func TestGlyphs(t *testing.T) { // P6.1
	check := func(c rune) {
		if got := shape.IsMonadic(c); got != (c > 0 && strings.Contains(monadic, string(c))) {
			t.Error("of one", string(c), got)
		}
		if got := shape.IsDyadic(c); got != (c > 0 && strings.Contains(dyadic, string(c))) {
			t.Error("of two", string(c), got)
		}
	}
	for c := rune(0); c < 256; c++ {
		check(c)
	}
	for c := rune(0x2190); c < 0x2400; c++ {
		check(c)
	}
	for _, c := range lex.Primitives() {
		check(c)
	}
	for _, c := range noGlyphs() {
		if shape.IsMonadic(c) || shape.IsDyadic(c) {
			t.Error(c)
		}
	}
}

// reversed is what an array is the other way round, as the document says.
func reversed(axis int, a api.Array) api.Array {
	if len(a.Shape) == 0 {
		return a
	}
	return built(a.Shape, a.Items[0], func(index []int) api.Item {
		return itemAt(a, with(index, axis, a.Shape[axis]-1-index[axis]))
	})
}

func transposed(a api.Array) api.Array {
	lengths := slices.Clone(a.Shape)
	slices.Reverse(lengths)
	return built(lengths, a.Items[0], func(index []int) api.Item {
		slices.Reverse(index)
		return itemAt(a, index)
	})
}

func TestMonadic(t *testing.T) { // P6.1, P6.7, P3
	for _, a := range samples() {
		rank := len(a.Shape)
		lengths := vec(numItems(a.Shape...)...)
		if rank == 0 {
			lengths = none(num(0), 0)
		}
		row := arr([]int{sizeOf(a.Shape)}, a.Items...)
		if sizeOf(a.Shape) == 0 {
			row = none(array.Proto(a), 0)
		}
		want := map[rune]api.Array{'⍴': lengths, ',': row, '⌽': reversed(rank-1, a), '⊖': reversed(0, a), '⍉': transposed(a)}
		for _, io := range []int{0, 1} {
			for _, glyph := range monadic {
				in := roomy(a)
				before := snapshot(in)
				got, e := shape.Monadic(env(io), glyph, in)
				expect(t, string(glyph), got, e, want[glyph], api.OK)
				if snapshot(in) != before {
					t.Error(string(glyph), "changed", a)
				}
				apart(t, string(glyph), got, in)
			}
		}
	}
}

func TestMonadicCases(t *testing.T) { // P6.1
	most := []int{1, 2, 1, 2, 1, 2, 1, 3}
	cases := []struct {
		glyph rune
		a     api.Array
		want  api.Array
	}{
		{'⍉', counted(2, 3), arr([]int{3, 2}, numItems(1, 4, 2, 5, 3, 6)...)},
		{'⍉', counted(2, 2, 2), arr([]int{2, 2, 2}, numItems(1, 5, 3, 7, 2, 6, 4, 8)...)},
		{'⍉', counted(0, 3), none(num(0), 3, 0)},
		{'⍉', nums(1, 2), nums(1, 2)},
		{'⍉', one(char('a')), one(char('a'))},
		{'⌽', counted(2, 3), arr([]int{2, 3}, numItems(3, 2, 1, 6, 5, 4)...)},
		{'⊖', counted(2, 3), arr([]int{2, 3}, numItems(4, 5, 6, 1, 2, 3)...)},
		{'⌽', text("abc"), text("cba")},
		{'⊖', text("abc"), text("cba")},
		{'⌽', one(boxed(nums(1, 2))), one(boxed(nums(1, 2)))},
		{'⌽', vec(boxed(nums(1, 2)), num(3)), vec(num(3), boxed(nums(1, 2)))},
		{'⊖', none(char(' '), 2, 0), none(char(' '), 2, 0)},
		{',', counted(2, 3), nums(1, 2, 3, 4, 5, 6)},
		{',', one(num(5)), nums(5)},
		{',', one(boxed(nums(1, 2))), vec(boxed(nums(1, 2)))},
		{',', none(boxed(nums(0, 0)), 3, 0), none(boxed(nums(0, 0)), 0)},
		{',', counted(most...), nums(sequence(24)...)},
		{',', counted(64, 64), nums(sequence(4096)...)},
		{'⍴', one(num(5)), none(num(0), 0)},
		{'⍴', text("abc"), nums(3)},
		{'⍴', none(char(' '), 0, 4096, 4096), nums(0, 4096, 4096)},
		{'⍴', counted(most...), nums(most...)},
		{'⍉', none(char(' '), 0, 4096, 4096, 4096, 4096, 4096, 4096, 4096), none(char(' '), 4096, 4096, 4096, 4096, 4096, 4096, 4096, 0)},
		{'⌽', none(char(' '), 0, 4096, 4096, 4096, 4096, 4096, 4096, 4096), none(char(' '), 0, 4096, 4096, 4096, 4096, 4096, 4096, 4096)},
		{',', deep(api.MaxDepth), vec(boxed(deep(api.MaxDepth - 1)))},
	}
	for k, c := range cases {
		got, e := shape.Monadic(env(1), c.glyph, c.a)
		expect(t, k, got, e, c.want, api.OK)
	}
}

func TestMonadicErrors(t *testing.T) { // P6.1, P1, P2
	for _, a := range append(wrongArrays(), nums(1)) {
		for _, glyph := range append(noGlyphs(), []rune(`⍪↑↓/⌿\⍀`)...) {
			got, e := shape.Monadic(env(5), glyph, a)
			expect(t, glyph, got, e, api.Array{}, api.ErrNone)
		}
	}
	for _, glyph := range monadic {
		for _, a := range wrongArrays() {
			got, e := shape.Monadic(env(1), glyph, a)
			expect(t, string(glyph), got, e, api.Array{}, api.ErrForm)
		}
		for _, io := range wrongOrigins() {
			got, e := shape.Monadic(env(io), glyph, nums(1, 2))
			expect(t, string(glyph), got, e, api.Array{}, api.ErrForm)
		}
	}
}

func wrongOrigins() []int {
	return []int{-1, 2, math.MaxInt, math.MinInt}
}

func TestMonadicAt(t *testing.T) { // P6.2, P3
	for _, a := range samples() {
		for _, glyph := range "⌽⊖" {
			for _, io := range []int{0, 1} {
				for axis := range a.Shape {
					in := roomy(a)
					got, e := shape.MonadicAt(env(io), glyph, axis+io, in)
					expect(t, string(glyph), got, e, reversed(axis, a), api.OK)
					apart(t, string(glyph), got, in)
				}
				for _, axis := range []int{io - 1, io + len(a.Shape), math.MinInt, math.MaxInt} {
					got, e := shape.MonadicAt(env(io), glyph, axis, a)
					expect(t, axis, got, e, api.Array{}, api.Axis)
				}
			}
		}
	}
	got, e := shape.MonadicAt(env(1), '⊖', 2, counted(2, 2, 2))
	expect(t, "the middle one", got, e, arr([]int{2, 2, 2}, numItems(3, 4, 1, 2, 7, 8, 5, 6)...), api.OK)
}

func TestMonadicAtErrors(t *testing.T) { // P6.2, P1, P2
	for _, a := range append(wrongArrays(), nums(1)) {
		for _, glyph := range append(noGlyphs(), []rune(`⍴,⍉⍪↑↓/⌿\⍀`)...) {
			got, e := shape.MonadicAt(env(7), glyph, 99, a)
			expect(t, glyph, got, e, api.Array{}, api.ErrNone)
		}
	}
	for _, glyph := range "⌽⊖" {
		for _, a := range wrongArrays() {
			got, e := shape.MonadicAt(env(1), glyph, 99, a)
			expect(t, string(glyph), got, e, api.Array{}, api.ErrForm)
		}
		for _, io := range wrongOrigins() {
			got, e := shape.MonadicAt(env(io), glyph, io, nums(1, 2))
			expect(t, string(glyph), got, e, api.Array{}, api.ErrForm)
		}
	}
}

func TestThereAndBack(t *testing.T) { // P6.4, E7
	for _, a := range samples() {
		for _, glyph := range "⌽⊖⍉" {
			got, _ := shape.Monadic(env(1), glyph, a)
			got, e := shape.Monadic(env(1), glyph, got)
			expect(t, string(glyph)+" twice", got, e, a, api.OK)
		}
		for _, glyph := range "⌽⊖" {
			for _, n := range []int{0, 1, -1, 2, 5, math.MaxInt, -math.MaxInt} {
				got, _ := shape.Dyadic(env(1), glyph, one(num(n)), a)
				got, e := shape.Dyadic(env(1), glyph, one(num(-n)), got)
				expect(t, string(glyph)+" there and back", got, e, a, api.OK)
			}
		}
	}
}

func TestReshapedToItself(t *testing.T) { // P6.5
	for _, a := range samples() {
		lengths, _ := shape.Monadic(env(1), '⍴', a)
		got, e := shape.Dyadic(env(1), '⍴', lengths, a)
		want := array.Copy(a)
		if sizeOf(a.Shape) == 0 { // the one item is the prototype
			want.Items = []api.Item{array.Proto(a)}
		}
		expect(t, "its own lengths", got, e, want, api.OK)
		for _, l := range [][]int{{}, {0}, {3}, {2, 3}, {0, 5}, {1, 1, 1, 1, 1, 1, 1, 1}} {
			got, e := shape.Dyadic(env(1), '⍴', ints(l...), a)
			if e != api.OK || !slices.Equal(got.Shape, l) {
				t.Error(l, got, e)
			}
			back, _ := shape.Monadic(env(1), '⍴', got)
			expect(t, "what was asked", back, e, ints(l...), api.OK)
		}
	}
}

// ints is a vector of numbers; of none with the prototype 0.
func ints(l ...int) api.Array {
	if len(l) == 0 {
		return none(num(0), 0)
	}
	return nums(l...)
}

func TestTakenAndDropped(t *testing.T) { // P6.6, E7
	for _, a := range samples() {
		if len(a.Shape) != 1 {
			continue
		}
		for n := range a.Shape[0] + 1 {
			front, e := shape.Dyadic(env(1), '↑', one(num(n)), a)
			if e != api.OK || front.Shape[0] != n {
				t.Error(n, front, e)
			}
			back, e := shape.Dyadic(env(1), '↓', one(num(n)), a)
			if e != api.OK || back.Shape[0] != a.Shape[0]-n {
				t.Error(n, back, e)
			}
			got, e := shape.Dyadic(env(1), ',', front, back)
			want := array.Copy(a)
			if a.Shape[0] == 0 {
				want.Items = []api.Item{array.Proto(a)}
			}
			expect(t, n, got, e, want, api.OK)
		}
	}
}

func TestExpandedAndReplicated(t *testing.T) { // P6.8
	d := dice(2463534242)
	for _, a := range samples() {
		if len(a.Shape) == 0 || sizeOf(a.Shape) == 0 && !array.Match(a, array.Type(a)) {
			continue
		}
		for _, pair := range []struct {
			out, in rune
			long    int
		}{{'\\', '/', a.Shape[len(a.Shape)-1]}, {'⍀', '⌿', a.Shape[0]}} {
			for range 5 {
				row := slices.Repeat([]int{1}, pair.long)
				for range 1 + d.next(3) {
					row = slices.Insert(row, d.next(len(row)+1), 0)
				}
				got, e := shape.Dyadic(env(1), pair.out, nums(row...), a)
				if e != api.OK {
					t.Error(row, got, e)
				}
				got, e = shape.Dyadic(env(1), pair.in, nums(row...), got)
				expect(t, row, got, e, a, api.OK)
			}
		}
	}
}

func TestStrides(t *testing.T) { // P6.3, P3
	cases := []struct{ lengths, want []int }{
		{nil, nil}, {[]int{}, nil}, {[]int{5}, []int{1}}, {[]int{0}, []int{1}}, {[]int{2, 3}, []int{3, 1}}, {[]int{2, 3, 4}, []int{12, 4, 1}}, {[]int{2, 0, 3}, []int{0, 3, 1}}, {[]int{0, 4096, 4096}, []int{1 << 24, 4096, 1}},
		{[]int{4096}, []int{1}}, {[]int{4096, 4096, 0}, []int{0, 0, 1}}, {[]int{4096, 1}, []int{1, 1}}, {[]int{1, 1, 1, 1, 1, 1, 1, 2}, []int{2, 2, 2, 2, 2, 2, 2, 1}},
		{[]int{4097}, nil}, {[]int{2, 2049}, nil}, {[]int{0, 4097}, nil}, {[]int{-1}, nil}, {[]int{-1, 0}, nil}, {[]int{1, 1, 1, 1, 1, 1, 1, 1, 1}, nil}, {[]int{math.MaxInt, math.MaxInt}, nil}, {[]int{math.MinInt}, nil},
		{[]int{0, 4096, 4096, 4096, 4096, 4096}, []int{1 << 60, 1 << 48, 1 << 36, 1 << 24, 4096, 1}}, {[]int{0, 4, 4096, 4096, 4096, 4096, 4096}, []int{1 << 62, 1 << 60, 1 << 48, 1 << 36, 1 << 24, 4096, 1}},
		{[]int{0, 8, 4096, 4096, 4096, 4096, 4096}, nil}, {[]int{0, 4096, 4096, 4096, 4096, 4096, 4096}, nil}, {[]int{0, 4096, 4096, 4096, 4096, 4096, 4096, 4096}, nil},
		{[]int{4096, 4096, 4096, 4096, 4096, 4096, 0, 4096}, []int{0, 0, 0, 0, 0, 0, 4096, 1}},
	}
	for _, c := range cases {
		room := append(slices.Clone(c.lengths), 77)
		got := shape.Strides(room[:len(c.lengths)]...)
		if !slices.Equal(got, c.want) || room[len(c.lengths)] != 77 {
			t.Error(c.lengths, got)
		}
		apart(t, "Strides", got, room)
	}
}

func TestPlaces(t *testing.T) { // P6.3, P3
	cases := []struct {
		lengths []int
		axis    int
		want    [][]int
	}{
		{[]int{2, 3}, 0, [][]int{{0, 1, 2}, {3, 4, 5}}}, {[]int{2, 3}, 1, [][]int{{0, 3}, {1, 4}, {2, 5}}}, {[]int{3}, 0, [][]int{{0}, {1}, {2}}}, {[]int{2, 2, 2}, 1, [][]int{{0, 1, 4, 5}, {2, 3, 6, 7}}},
		{[]int{0}, 0, nil}, {[]int{0, 3}, 0, nil}, {[]int{0, 3}, 1, [][]int{{}, {}, {}}}, {[]int{2, 0}, 0, [][]int{{}, {}}}, {[]int{1, 1, 1, 1, 1, 1, 1, 1}, 7, [][]int{{0}}},
		{[]int{2, 4096, 4096, 4096, 4096, 4096, 4096, 0}, 0, [][]int{{}, {}}}, {[]int{0, 4096, 4096, 4096, 4096, 4096, 4096, 1}, 7, [][]int{{}}},
	}
	for _, c := range cases {
		room := append(slices.Clone(c.lengths), 77)
		got, ok := shape.Places(room[:len(c.lengths)], c.axis)
		if !ok || !slices.EqualFunc(got, c.want, slices.Equal) || room[len(c.lengths)] != 77 {
			t.Error(c.lengths, c.axis, got, ok)
		}
		apart(t, "Places", got, room)
	}
	if got, ok := shape.Places([]int{4096}, 0); !ok || len(got) != 4096 || !slices.Equal(got[4095], []int{4095}) {
		t.Error("the most", ok)
	}
	if got, ok := shape.Places([]int{4096, 1}, 1); !ok || len(got) != 1 || !slices.Equal(got[0][:3], []int{0, 1, 2}) || len(got[0]) != 4096 {
		t.Error("the most", ok)
	}
	for _, lengths := range [][]int{nil, {2}, {2, 3}, {0, 3}, {4097}, {-1, 2}, {2, 2049}, {1, 1, 1, 1, 1, 1, 1, 1, 1}} {
		wrong := []int{-1, len(lengths), len(lengths) + 1, math.MaxInt, math.MinInt}
		if _, e := array.Size(lengths); e != api.OK {
			wrong = append(wrong, 0, 1)
		}
		for _, axis := range wrong {
			if got, ok := shape.Places(lengths, axis); ok || len(got) != 0 {
				t.Error(lengths, axis, got, ok)
			}
		}
	}
}

// TestPlacesOfCells holds the places of each axis against the indices of all items.
func TestPlacesOfCells(t *testing.T) { // P6.3
	for _, lengths := range [][]int{{4}, {2, 3}, {3, 1, 2}, {2, 3, 2, 2}, {1, 2, 1, 3, 1, 2, 1, 2}} {
		for axis := range lengths {
			want := make([][]int, lengths[axis])
			for place := range sizeOf(lengths) {
				i := indexOf(lengths, place)[axis]
				want[i] = append(want[i], place)
			}
			if got, ok := shape.Places(lengths, axis); !ok || !slices.EqualFunc(got, want, slices.Equal) {
				t.Error(lengths, axis, got, ok)
			}
		}
	}
}
