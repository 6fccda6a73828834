package shape_test

import (
	"math"
	"slices"
	"testing"

	"glyph/api"
	"glyph/array"
	"glyph/shape"
)

// pairs are a case of a function of two arrays, with the origin 1.
type pairs struct {
	a     api.Array
	glyph rune
	b     api.Array
	want  api.Array
	e     api.Errno
}

func run(t *testing.T, cases []pairs) {
	t.Helper()
	for k, c := range cases {
		a, b := roomy(c.a), roomy(c.b)
		before := snapshot(a) + snapshot(b)
		got, e := shape.Dyadic(env(1), c.glyph, a, b)
		expect(t, k, got, e, c.want, c.e)
		if snapshot(a)+snapshot(b) != before {
			t.Error(k, "changed")
		}
		apart(t, k, got, a, b)
	}
}

// great is a whole number that no int holds.
func great(below bool) api.Item {
	return number(api.Rat{Below: below, Num: []uint32{1, 0, 1}, Den: []uint32{1}})
}

// wrongWholes are arguments that are no whole numbers, each with its error.
func wrongWholes() map[api.Errno][]api.Array {
	return map[api.Errno][]api.Array{
		api.Rank:   {arr([]int{1, 1}, num(1)), none(num(0), 0, 0), arr([]int{1, 1}, char('a')), counted(2, 2)},
		api.Domain: {one(char('1')), one(number(frac(1, 2))), one(boxed(nums(1))), one(great(false)), one(great(true)), text("1")},
	}
}

func TestReshape(t *testing.T) { // P6.1
	eight := []int{2, 1, 2, 1, 2, 1, 2, 1}
	half := one(boxed(nums(sequence(8191 / 2)...)))
	run(t, []pairs{
		{nums(2, 3), '⍴', nums(sequence(6)...), counted(2, 3), api.OK},
		{nums(2, 2), '⍴', nums(1, 2, 3), arr([]int{2, 2}, numItems(1, 2, 3, 1)...), api.OK},
		{nums(2), '⍴', nums(1, 2, 3), nums(1, 2), api.OK},
		{one(num(3)), '⍴', one(char('a')), text("aaa"), api.OK},
		{none(num(0), 0), '⍴', nums(7, 8), one(num(7)), api.OK},
		{none(char(' '), 0), '⍴', counted(2, 2), one(num(1)), api.OK},
		{none(num(0), 0), '⍴', vec(boxed(nums(1, 2)), num(1)), one(boxed(nums(1, 2))), api.OK},
		{nums(2), '⍴', vec(boxed(text("ab"))), vec(boxed(text("ab")), boxed(text("ab"))), api.OK},
		{nums(0), '⍴', text("abc"), none(char(' '), 0), api.OK},
		{nums(2, 0), '⍴', vec(boxed(vec(num(3), char('a')))), none(boxed(vec(num(0), char(' '))), 2, 0), api.OK},
		{nums(3), '⍴', none(char(' '), 0), text("   "), api.OK},
		{nums(2), '⍴', none(boxed(nums(0, 0)), 3, 0), vec(boxed(nums(0, 0)), boxed(nums(0, 0))), api.OK},
		{none(num(0), 0), '⍴', none(num(0), 0), one(num(0)), api.OK},
		{nums(2), '⍴', none(num(5), 0), nums(0, 0), api.OK},
		{nums(0, 3), '⍴', none(num(0), 0), none(num(0), 0, 3), api.OK},
		{nums(4096), '⍴', nums(1), nums(slices.Repeat([]int{1}, 4096)...), api.OK},
		{nums(0, 4096, 4096), '⍴', nums(1), none(num(0), 0, 4096, 4096), api.OK},
		{nums(eight...), '⍴', nums(sequence(16)...), counted(eight...), api.OK},
		{nums(1, 1, 1, 1, 1, 1, 1, 1, 1), '⍴', nums(1), api.Array{}, api.Rank},
		{nums(0, 0, 0, 0, 0, 0, 0, 0, 0), '⍴', nums(1), api.Array{}, api.Rank},
		{vec(append(numItems(1, 1, 1, 1, 1, 1, 1, 1), char('a'))...), '⍴', nums(1), api.Array{}, api.Rank},
		{nums(2, -1), '⍴', nums(1), api.Array{}, api.Domain},
		{nums(4097, -1), '⍴', nums(1), api.Array{}, api.Domain},
		{nums(0, -1), '⍴', nums(1), api.Array{}, api.Domain},
		{nums(4097), '⍴', nums(1), api.Array{}, api.Limit},
		{nums(0, 4097), '⍴', nums(1), api.Array{}, api.Limit},
		{nums(2, 2049), '⍴', nums(1), api.Array{}, api.Limit},
		{nums(math.MaxInt, math.MaxInt), '⍴', nums(1), api.Array{}, api.Limit},
		{nums(4), '⍴', half, vec(slices.Repeat(half.Items, 4)...), api.OK},
		{nums(5), '⍴', half, api.Array{}, api.Limit},
		{nums(4096), '⍴', half, api.Array{}, api.Limit},
	})
	for e, l := range wrongWholes() {
		for _, a := range l {
			run(t, []pairs{{a, '⍴', nums(1, 2), api.Array{}, e}})
		}
	}
}

func TestTake(t *testing.T) { // P6.1
	matrix := counted(2, 3)
	run(t, []pairs{
		{one(num(5)), '↑', nums(1, 2), nums(1, 2, 0, 0, 0), api.OK},
		{one(num(-3)), '↑', nums(1, 2), nums(0, 1, 2), api.OK},
		{nums(2), '↑', nums(1, 2, 3), nums(1, 2), api.OK},
		{nums(-2), '↑', nums(1, 2, 3), nums(2, 3), api.OK},
		{nums(3), '↑', nums(1, 2, 3), nums(1, 2, 3), api.OK},
		{nums(-3), '↑', nums(1, 2, 3), nums(1, 2, 3), api.OK},
		{nums(0), '↑', text("ab"), none(char(' '), 0), api.OK},
		{nums(4), '↑', text("ab"), text("ab  "), api.OK},
		{nums(3), '↑', vec(char('a'), num(1)), vec(char('a'), num(1), char(' ')), api.OK},
		{nums(3), '↑', vec(boxed(vec(num(5), char('a')))), vec(boxed(vec(num(5), char('a'))), boxed(vec(num(0), char(' '))), boxed(vec(num(0), char(' ')))), api.OK},
		{nums(0), '↑', vec(boxed(nums(1, 2))), none(boxed(nums(0, 0)), 0), api.OK},
		{nums(2), '↑', none(char(' '), 0), text("  "), api.OK},
		{nums(2, 2), '↑', none(boxed(nums(0)), 0, 3), arr([]int{2, 2}, slices.Repeat([]api.Item{boxed(nums(0))}, 4)...), api.OK},
		{nums(1, 2), '↑', matrix, arr([]int{1, 2}, numItems(1, 2)...), api.OK},
		{nums(-1, 2), '↑', matrix, arr([]int{1, 2}, numItems(4, 5)...), api.OK},
		{nums(1, -2), '↑', matrix, arr([]int{1, 2}, numItems(2, 3)...), api.OK},
		{nums(3, -4), '↑', matrix, arr([]int{3, 4}, numItems(0, 1, 2, 3, 0, 4, 5, 6, 0, 0, 0, 0)...), api.OK},
		{nums(-3, 1), '↑', matrix, arr([]int{3, 1}, numItems(0, 1, 4)...), api.OK},
		{nums(0, 5), '↑', matrix, none(num(0), 0, 5), api.OK},
		{nums(2, 1, 2), '↑', counted(1, 2, 3), arr([]int{2, 1, 2}, numItems(1, 2, 0, 0)...), api.OK},
		{none(num(0), 0), '↑', one(char('a')), one(char('a')), api.OK},
		{one(num(3)), '↑', one(char('a')), text("a  "), api.OK},
		{nums(-2, 2), '↑', one(num(5)), arr([]int{2, 2}, numItems(0, 0, 5, 0)...), api.OK},
		{nums(1, 1, 1, 1, 1, 1, 1, 2), '↑', one(num(5)), arr([]int{1, 1, 1, 1, 1, 1, 1, 2}, numItems(5, 0)...), api.OK},
		{nums(0, 0), '↑', one(char('a')), none(char(' '), 0, 0), api.OK},
		{nums(2), '↑', one(boxed(nums(3, 4))), vec(boxed(nums(3, 4)), boxed(nums(0, 0))), api.OK},
		{nums(1, 1, 1, 1, 1, 1, 1, 1, 1), '↑', one(num(5)), api.Array{}, api.Rank},
		{vec(append(numItems(1, 1, 1, 1, 1, 1, 1, 1), char('a'))...), '↑', one(num(5)), api.Array{}, api.Rank},
		{nums(1, 1, 1, 1, 1, 1, 1, 1, 1), '↑', nums(1, 2), api.Array{}, api.Length},
		{none(num(0), 0), '↑', nums(1, 2), api.Array{}, api.Length},
		{nums(1), '↑', matrix, api.Array{}, api.Length},
		{one(num(1)), '↑', matrix, api.Array{}, api.Length},
		{nums(1, 2), '↑', nums(1, 2), api.Array{}, api.Length},
		{text("ab"), '↑', nums(1, 2), api.Array{}, api.Length},
		{text("ab"), '↑', matrix, api.Array{}, api.Domain},
		{nums(4096), '↑', nums(1), nums(append([]int{1}, make([]int, 4095)...)...), api.OK},
		{nums(-4096), '↑', nums(1), nums(append(make([]int, 4095), 1)...), api.OK},
		{nums(4097), '↑', nums(1), api.Array{}, api.Limit},
		{nums(-4097), '↑', nums(1), api.Array{}, api.Limit},
		{nums(math.MaxInt), '↑', nums(1), api.Array{}, api.Limit},
		{nums(math.MinInt), '↑', nums(1), api.Array{}, api.Limit},
		{nums(0, math.MinInt), '↑', matrix, api.Array{}, api.Limit},
		{nums(64, -65), '↑', matrix, api.Array{}, api.Limit},
		{nums(4096, 1), '↑', arr([]int{1, 4096}, numItems(sequence(4096)...)...), arr([]int{4096, 1}, numItems(append([]int{1}, make([]int, 4095)...)...)...), api.OK},
		{nums(1, 1, 1, 1, 1, 1, 1, 1), '↑', none(char(' '), 0, 4096, 4096, 4096, 4096, 4096, 4096, 4096), arr([]int{1, 1, 1, 1, 1, 1, 1, 1}, char(' ')), api.OK},
		{nums(4), '↑', vec(boxed(nums(sequence(4095)...))), vec(append([]api.Item{boxed(nums(sequence(4095)...))}, slices.Repeat([]api.Item{boxed(nums(make([]int, 4095)...))}, 3)...)...), api.OK},
		{nums(5), '↑', vec(boxed(nums(sequence(4095)...))), api.Array{}, api.Limit},
	})
	for e, l := range wrongWholes() {
		for _, a := range l {
			run(t, []pairs{{a, '↑', nums(1, 2), api.Array{}, e}, {a, '↓', nums(1, 2), api.Array{}, e}, {a, '↑', one(num(1)), api.Array{}, e}, {a, '↓', one(num(1)), api.Array{}, e}})
		}
	}
}

func TestDrop(t *testing.T) { // P6.1
	matrix := counted(2, 3)
	run(t, []pairs{
		{one(num(1)), '↓', nums(1, 2, 3), nums(2, 3), api.OK},
		{one(num(-1)), '↓', nums(1, 2, 3), nums(1, 2), api.OK},
		{nums(0), '↓', text("ab"), text("ab"), api.OK},
		{nums(3), '↓', text("abc"), none(char(' '), 0), api.OK},
		{nums(9), '↓', text("abc"), none(char(' '), 0), api.OK},
		{nums(-9), '↓', vec(boxed(nums(1, 2))), none(boxed(nums(0, 0)), 0), api.OK},
		{nums(math.MaxInt), '↓', nums(1, 2), none(num(0), 0), api.OK},
		{nums(math.MinInt), '↓', nums(1, 2), none(num(0), 0), api.OK},
		{nums(1, 1), '↓', matrix, arr([]int{1, 2}, numItems(5, 6)...), api.OK},
		{nums(-1, 1), '↓', matrix, arr([]int{1, 2}, numItems(2, 3)...), api.OK},
		{nums(0, -2), '↓', matrix, arr([]int{2, 1}, numItems(1, 4)...), api.OK},
		{nums(2, 0), '↓', matrix, none(num(0), 0, 3), api.OK},
		{nums(5, 1), '↓', matrix, none(num(0), 0, 2), api.OK},
		{nums(1, 0), '↓', none(char(' '), 3, 0), none(char(' '), 2, 0), api.OK},
		{nums(0, 1), '↓', none(char(' '), 3, 0), none(char(' '), 3, 0), api.OK},
		{none(char(' '), 0), '↓', one(num(5)), one(num(5)), api.OK},
		{one(num(0)), '↓', one(char('a')), text("a"), api.OK},
		{one(num(1)), '↓', one(char('a')), none(char(' '), 0), api.OK},
		{nums(0, 0), '↓', one(num(5)), arr([]int{1, 1}, num(5)), api.OK},
		{nums(0, -1), '↓', one(num(5)), none(num(0), 1, 0), api.OK},
		{nums(0, 0, 0, 0, 0, 0, 0, 0), '↓', one(num(5)), arr([]int{1, 1, 1, 1, 1, 1, 1, 1}, num(5)), api.OK},
		{nums(0, 0, 0, 0, 0, 0, 0, 0, 0), '↓', one(num(5)), api.Array{}, api.Rank},
		{nums(1), '↓', matrix, api.Array{}, api.Length},
		{nums(1, 1), '↓', nums(1, 2), api.Array{}, api.Length},
		{none(num(0), 0), '↓', nums(1, 2), api.Array{}, api.Length},
		{vec(num(1), char('a')), '↓', nums(1, 2), api.Array{}, api.Length},
		{vec(num(1), char('a')), '↓', matrix, api.Array{}, api.Domain},
	})
}

// TestTakeAndDropEachPlace holds each item against that of its own indices.
func TestTakeAndDropEachPlace(t *testing.T) { // P6.1
	for _, b := range []api.Array{counted(3), counted(2, 3), counted(0, 2), counted(2, 1, 3), arr([]int{2, 2}, char('a'), num(1), boxed(nums(1)), num(2))} {
		l := make([]int, len(b.Shape))
		for k := range l {
			l[k] = -5
		}
		for k := 0; k < len(l); {
			front, lengths, rest := make([]int, len(l)), make([]int, len(l)), make([]int, len(l))
			from := make([]int, len(l))
			for k, n := range l {
				lengths[k], rest[k], from[k] = max(n, -n), max(b.Shape[k]-max(n, -n), 0), min(max(n, 0), b.Shape[k])
				if n < 0 {
					front[k] = b.Shape[k] + n
				}
			}
			got, e := shape.Dyadic(env(0), '↑', nums(l...), b)
			expect(t, l, got, e, built(lengths, array.Proto(b), func(index []int) api.Item {
				for k := range index {
					index[k] += front[k]
					if index[k] < 0 || index[k] >= b.Shape[k] {
						return array.Proto(b)
					}
				}
				return itemAt(b, index)
			}), api.OK)
			got, e = shape.Dyadic(env(0), '↓', nums(l...), b)
			expect(t, l, got, e, built(rest, array.Proto(b), func(index []int) api.Item {
				for k := range index {
					index[k] += from[k]
				}
				return itemAt(b, index)
			}), api.OK)
			for k = 0; k < len(l); k++ { // the next row of numbers from -5 to 5
				if l[k]++; l[k] <= 5 {
					break
				}
				l[k] = -5
			}
		}
	}
}

func TestRotate(t *testing.T) { // P6.1
	matrix := counted(2, 3)
	run(t, []pairs{
		{one(num(1)), '⌽', nums(1, 2, 3), nums(2, 3, 1), api.OK},
		{one(num(-1)), '⌽', nums(1, 2, 3), nums(3, 1, 2), api.OK},
		{nums(3), '⊖', text("abc"), text("abc"), api.OK},
		{arr([]int{1, 1, 1}, num(4)), '⌽', text("abc"), text("bca"), api.OK},
		{one(num(1)), '⌽', matrix, arr([]int{2, 3}, numItems(2, 3, 1, 5, 6, 4)...), api.OK},
		{one(num(1)), '⊖', matrix, arr([]int{2, 3}, numItems(4, 5, 6, 1, 2, 3)...), api.OK},
		{one(num(math.MaxInt)), '⌽', nums(1, 2, 3), nums(2, 3, 1), api.OK}, // 2^63-1 leaves 1
		{one(num(math.MinInt)), '⌽', nums(1, 2, 3), nums(2, 3, 1), api.OK}, // -2^63 leaves 1
		{one(num(5)), '⌽', one(char('a')), one(char('a')), api.OK},
		{one(num(5)), '⊖', one(boxed(nums(1, 2))), one(boxed(nums(1, 2))), api.OK},
		{one(num(5)), '⌽', none(char(' '), 3, 0), none(char(' '), 3, 0), api.OK},
		{one(num(1)), '⊖', none(char(' '), 3, 0), none(char(' '), 3, 0), api.OK},
		{nums(1, 2), '⌽', matrix, api.Array{}, api.Length},
		{none(num(0), 0), '⌽', matrix, api.Array{}, api.Length},
		{none(num(0), 0, 0), '⌽', one(num(1)), api.Array{}, api.Length},
		{text("ab"), '⊖', matrix, api.Array{}, api.Length},
		{counted(2, 2), '⊖', matrix, api.Array{}, api.Length},
		{text("a"), '⌽', matrix, api.Array{}, api.Domain},
		{one(char('a')), '⌽', one(num(1)), api.Array{}, api.Domain},
		{one(number(frac(1, 2))), '⊖', matrix, api.Array{}, api.Domain},
		{vec(boxed(nums(1))), '⊖', none(num(0), 0), api.Array{}, api.Domain},
		{one(great(false)), '⌽', matrix, api.Array{}, api.Domain},
	})
	for n := -7; n <= 7; n++ {
		for _, b := range []api.Array{counted(3), counted(2, 3), counted(3, 2, 4)} {
			for axis := range b.Shape {
				want := built(b.Shape, num(0), func(index []int) api.Item {
					long := b.Shape[axis]
					return itemAt(b, with(index, axis, ((index[axis]+n)%long+long)%long))
				})
				got, e := shape.DyadicAt(env(1), '⌽', axis+1, one(num(n)), b)
				expect(t, n, got, e, want, api.OK)
			}
		}
	}
}

func TestTransposeBy(t *testing.T) { // P6.1
	matrix, cube := counted(2, 3), counted(2, 3, 2)
	run(t, []pairs{
		{nums(2, 1), '⍉', matrix, arr([]int{3, 2}, numItems(1, 4, 2, 5, 3, 6)...), api.OK},
		{nums(1, 2), '⍉', matrix, matrix, api.OK},
		{nums(1, 1), '⍉', matrix, nums(1, 5), api.OK},
		{nums(1, 1), '⍉', counted(3, 2), nums(1, 4), api.OK},
		{nums(1, 1, 1), '⍉', cube, nums(1, 10), api.OK},
		{nums(2, 1, 2), '⍉', cube, arr([]int{3, 2}, numItems(1, 8, 3, 10, 5, 12)...), api.OK},
		{nums(1, 2, 1), '⍉', cube, arr([]int{2, 3}, numItems(1, 3, 5, 8, 10, 12)...), api.OK},
		{nums(2, 3, 1), '⍉', cube, arr([]int{2, 2, 3}, numItems(1, 3, 5, 7, 9, 11, 2, 4, 6, 8, 10, 12)...), api.OK},
		{one(num(1)), '⍉', nums(1, 2), nums(1, 2), api.OK},
		{none(num(0), 0), '⍉', one(char('a')), one(char('a')), api.OK},
		{none(char(' '), 0), '⍉', one(boxed(nums(1, 2))), one(boxed(nums(1, 2))), api.OK},
		{nums(2, 1), '⍉', none(char(' '), 0, 3), none(char(' '), 3, 0), api.OK},
		{nums(1, 1), '⍉', none(char(' '), 0, 3), none(char(' '), 0), api.OK},
		{nums(1, 1), '⍉', none(char(' '), 3, 0), none(char(' '), 0), api.OK},
		{nums(2, 1, 1), '⍉', none(char(' '), 3, 0, 2), none(char(' '), 0, 3), api.OK},
		{nums(8, 7, 6, 5, 4, 3, 2, 1), '⍉', none(num(0), 0, 4096, 4096, 4096, 4096, 4096, 4096, 4096), none(num(0), 4096, 4096, 4096, 4096, 4096, 4096, 4096, 0), api.OK},
		{one(num(1)), '⍉', one(num(5)), api.Array{}, api.Length},
		{one(num(1)), '⍉', matrix, api.Array{}, api.Length},
		{nums(1, 2, 3), '⍉', matrix, api.Array{}, api.Length},
		{text("abc"), '⍉', matrix, api.Array{}, api.Length},
		{none(num(0), 0), '⍉', matrix, api.Array{}, api.Length},
		{text("ab"), '⍉', matrix, api.Array{}, api.Domain},
		{nums(1, 3), '⍉', matrix, api.Array{}, api.Domain},
		{nums(0, 1), '⍉', matrix, api.Array{}, api.Domain},
		{nums(2, 2), '⍉', matrix, api.Array{}, api.Domain},
		{nums(1, 3, 1), '⍉', cube, api.Array{}, api.Domain},
		{nums(3, 3, 1), '⍉', cube, api.Array{}, api.Domain},
		{nums(1, -1), '⍉', matrix, api.Array{}, api.Domain},
		{nums(math.MinInt, math.MaxInt), '⍉', matrix, api.Array{}, api.Domain},
	})
	for e, l := range wrongWholes() {
		for _, a := range l {
			run(t, []pairs{{a, '⍉', nums(1, 2), api.Array{}, e}})
		}
	}
	for _, c := range []struct {
		l []int
		e api.Errno
	}{{[]int{1, 0}, api.OK}, {[]int{0, 0}, api.OK}, {[]int{0, 1}, api.OK}, {[]int{1, 2}, api.Domain}, {[]int{1, 1}, api.Domain}, {[]int{-1, 0}, api.Domain}} {
		got, e := shape.Dyadic(env(0), '⍉', nums(c.l...), matrix)
		if e != c.e || e != api.OK && got.Items != nil {
			t.Error("from 0 on", c.l, got, e)
		}
	}
	got, e := shape.Dyadic(env(0), '⍉', nums(1, 0), matrix)
	expect(t, "from 0 on", got, e, transposed(matrix), api.OK)
}

// TestTransposeEachPlace goes through all that may be asked of three axes.
func TestTransposeEachPlace(t *testing.T) { // P6.1
	b := counted(2, 3, 4)
	for n := range 27 {
		axes := []int{n / 9, n / 3 % 3, n % 3}
		rank := slices.Max(axes) + 1
		lengths, may := make([]int, rank), true
		for axis := range lengths {
			lengths[axis] = 99
			may = may && slices.Contains(axes, axis)
		}
		for k, axis := range axes {
			lengths[axis] = min(lengths[axis], b.Shape[k])
		}
		got, e := shape.Dyadic(env(0), '⍉', nums(axes...), b)
		if !may {
			expect(t, axes, got, e, api.Array{}, api.Domain)
			continue
		}
		expect(t, axes, got, e, built(lengths, num(0), func(index []int) api.Item {
			return itemAt(b, []int{index[axes[0]], index[axes[1]], index[axes[2]]})
		}), api.OK)
	}
}

func TestReplicate(t *testing.T) { // P6.1
	matrix := counted(2, 3)
	run(t, []pairs{
		{nums(2, 0, 1), '/', text("abc"), text("aac"), api.OK},
		{nums(1, 0, 2), '/', matrix, arr([]int{2, 3}, numItems(1, 3, 3, 4, 6, 6)...), api.OK},
		{nums(0, 2), '⌿', matrix, arr([]int{2, 3}, numItems(4, 5, 6, 4, 5, 6)...), api.OK},
		{one(num(2)), '/', text("ab"), text("aabb"), api.OK},
		{nums(2), '/', text("ab"), text("aabb"), api.OK},
		{one(num(2)), '⌿', matrix, arr([]int{4, 3}, numItems(1, 2, 3, 1, 2, 3, 4, 5, 6, 4, 5, 6)...), api.OK},
		{one(num(0)), '/', text("ab"), none(char(' '), 0), api.OK},
		{nums(0, 0), '/', vec(boxed(nums(1)), num(1)), none(boxed(nums(0)), 0), api.OK},
		{nums(0), '/', matrix, none(num(0), 2, 0), api.OK},
		{none(num(0), 0), '/', none(char(' '), 0), none(char(' '), 0), api.OK},
		{none(char(' '), 0), '/', none(num(0), 3, 0), none(num(0), 3, 0), api.OK},
		{one(num(5)), '/', none(char(' '), 3, 0), none(char(' '), 3, 0), api.OK},
		{one(num(math.MaxInt)), '/', none(char(' '), 3, 0), none(char(' '), 3, 0), api.OK},
		{nums(1, 2, 0), '⌿', none(char(' '), 3, 0), none(char(' '), 3, 0), api.OK},
		{one(num(3)), '/', one(num(5)), nums(5, 5, 5), api.OK},
		{nums(2, 0, 1), '/', one(char('a')), text("aaa"), api.OK},
		{nums(2, 1), '⌿', one(boxed(nums(1, 2))), vec(slices.Repeat([]api.Item{boxed(nums(1, 2))}, 3)...), api.OK},
		{nums(0, 0), '/', one(char('a')), none(char(' '), 0), api.OK},
		{none(num(0), 0), '/', one(boxed(nums(1, 2))), none(boxed(nums(0, 0)), 0), api.OK},
		{nums(2), '/', nums(7), nums(7, 7), api.OK},
		{nums(1, 2), '/', nums(7), api.Array{}, api.Length},
		{nums(1, 2), '/', matrix, api.Array{}, api.Length},
		{nums(1, 2, 3), '⌿', matrix, api.Array{}, api.Length},
		{none(num(0), 0), '/', nums(1, 2), api.Array{}, api.Length},
		{nums(1, 2), '/', none(num(0), 0), api.Array{}, api.Length},
		{nums(-1, 2), '/', matrix, api.Array{}, api.Length},
		{text("ab"), '/', matrix, api.Array{}, api.Length},
		{text("abc"), '/', matrix, api.Array{}, api.Domain},
		{nums(1, -1, 1), '/', matrix, api.Array{}, api.Domain},
		{one(num(-1)), '/', matrix, api.Array{}, api.Domain},
		{one(num(-1)), '/', none(num(0), 0), api.Array{}, api.Domain},
		{one(num(-1)), '/', one(num(5)), api.Array{}, api.Domain},
		{nums(math.MaxInt, -1, 1), '/', matrix, api.Array{}, api.Domain},
		{one(num(4096)), '/', one(num(5)), nums(slices.Repeat([]int{5}, 4096)...), api.OK},
		{one(num(4097)), '/', one(num(5)), api.Array{}, api.Limit},
		{nums(4095, 1), '/', nums(5, 5), nums(slices.Repeat([]int{5}, 4096)...), api.OK},
		{nums(4095, 2), '/', nums(5, 5), api.Array{}, api.Limit},
		{nums(math.MaxInt, math.MaxInt), '/', nums(5, 5), api.Array{}, api.Limit},
		{nums(math.MaxInt, math.MaxInt, 2), '/', nums(5, 5, 5), api.Array{}, api.Limit},
		{one(num(math.MaxInt)), '/', nums(sequence(4096)...), api.Array{}, api.Limit},
		{one(num(682)), '⌿', matrix, arr([]int{1364, 3}, numItems(append(slices.Repeat([]int{1, 2, 3}, 682), slices.Repeat([]int{4, 5, 6}, 682)...)...)...), api.OK},
		{one(num(683)), '⌿', matrix, api.Array{}, api.Limit},
		{one(num(4097)), '⌿', none(num(0), 1, 0), api.Array{}, api.Limit},
		{one(num(5)), '/', one(boxed(nums(sequence(4095)...))), api.Array{}, api.Limit},
		{nums(0, 1), '/', one(boxed(nums(sequence(4096)...))), vec(boxed(nums(sequence(4096)...))), api.OK},
	})
	for e, l := range wrongWholes() {
		for _, a := range l {
			for _, glyph := range `/⌿\⍀` {
				run(t, []pairs{{a, glyph, one(num(1)), api.Array{}, e}})
			}
			for _, glyph := range `/⌿` {
				run(t, []pairs{{a, glyph, nums(1, 2), api.Array{}, e}})
			}
		}
	}
}

func TestExpand(t *testing.T) { // P6.1
	matrix := counted(2, 3)
	deepest := one(boxed(deep(api.MaxDepth - 1)))
	run(t, []pairs{
		{nums(1, 0, 1), '\\', nums(5, 6), nums(5, 0, 6), api.OK},
		{nums(1, 1), '\\', nums(5, 6), nums(5, 6), api.OK},
		{nums(0, 1, 0), '\\', text("a"), text(" a "), api.OK},
		{nums(1, 0, 1, 1), '\\', matrix, arr([]int{2, 4}, numItems(1, 0, 2, 3, 4, 0, 5, 6)...), api.OK},
		{nums(0, 1, 1), '⍀', matrix, arr([]int{3, 3}, numItems(0, 0, 0, 1, 2, 3, 4, 5, 6)...), api.OK},
		{nums(1, 0), '\\', vec(boxed(vec(num(1), char('a')))), vec(boxed(vec(num(1), char('a'))), boxed(vec(num(0), char(' ')))), api.OK},
		{nums(0, 0), '\\', none(char(' '), 0), text("  "), api.OK},
		{one(num(0)), '\\', none(char(' '), 0), text(" "), api.OK},
		{nums(0, 0), '\\', none(char(' '), 1, 0), arr([]int{1, 2}, char(' '), char(' ')), api.OK},
		{nums(0, 0), '⍀', none(char(' '), 0, 3), arr([]int{2, 3}, slices.Repeat([]api.Item{char(' ')}, 6)...), api.OK},
		{nums(1, 0), '⍀', none(char(' '), 1, 0), none(char(' '), 2, 0), api.OK},
		{none(num(0), 0), '\\', none(char(' '), 0), none(char(' '), 0), api.OK},
		{none(num(0), 0), '\\', one(char('a')), none(char(' '), 0), api.OK},
		{one(num(1)), '\\', one(char('a')), text("a"), api.OK},
		{one(num(0)), '\\', one(char('a')), text(" "), api.OK},
		{one(num(1)), '\\', text("a"), text("a"), api.OK},
		{nums(1, 0, 1), '\\', one(num(5)), nums(5, 0, 5), api.OK},
		{nums(0, 1, 1), '⍀', one(boxed(nums(1))), vec(boxed(nums(0)), boxed(nums(1)), boxed(nums(1))), api.OK},
		{nums(1), '\\', deepest, arr([]int{1}, deepest.Items...), api.OK},
		{nums(1, 0, 1), '\\', nums(5), api.Array{}, api.Length},
		{nums(1, 0), '\\', nums(5, 6), api.Array{}, api.Length},
		{nums(1, 0, 1), '\\', matrix, api.Array{}, api.Length},
		{nums(1, 1, 1), '⍀', matrix, api.Array{}, api.Length},
		{none(num(0), 0), '\\', nums(5, 6), api.Array{}, api.Length},
		{nums(1), '\\', none(num(0), 0), api.Array{}, api.Length},
		{nums(1, 0, 2), '\\', nums(5), api.Array{}, api.Domain},
		{nums(1, 2), '\\', nums(5, 6), api.Array{}, api.Domain},
		{nums(1, -1), '\\', matrix, api.Array{}, api.Domain},
		{text("ab"), '\\', nums(5), api.Array{}, api.Domain},
		{nums(1, 0, -1, 2), '\\', nums(5, 6), api.Array{}, api.Domain},
		{nums(append([]int{1}, make([]int, 4095)...)...), '\\', nums(5), nums(append([]int{5}, make([]int, 4095)...)...), api.OK},
		{nums(append([]int{1}, make([]int, 2048)...)...), '\\', arr([]int{2, 1}, num(1), num(2)), api.Array{}, api.Limit},
		{nums(1, 0, 0, 0, 0), '\\', vec(boxed(nums(sequence(4095)...))), api.Array{}, api.Limit},
		{nums(1, 0, 0, 0), '\\', one(boxed(nums(sequence(4095)...))), vec(append([]api.Item{boxed(nums(sequence(4095)...))}, slices.Repeat([]api.Item{boxed(nums(make([]int, 4095)...))}, 3)...)...), api.OK},
	})
	for _, a := range wrongWholes()[api.Domain] {
		run(t, []pairs{{a, '\\', nums(1, 2), api.Array{}, api.Domain}, {a, '⍀', none(num(0), 0), api.Array{}, api.Domain}})
	}
	for _, a := range wrongWholes()[api.Rank] {
		run(t, []pairs{{a, '\\', nums(1, 2), api.Array{}, api.Rank}, {a, '⍀', none(num(0), 0), api.Array{}, api.Rank}})
	}
}
