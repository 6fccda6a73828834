package pick_test

import (
	"math/big"
	"slices"
	"testing"

	"glyph/api"
	"glyph/array"
	"glyph/pick"
	"glyph/rat"
)

// pairs are a case of a function of two arrays, with the origin 1.
type pairs struct {
	a     api.Array
	glyph rune
	b     api.Array
	want  api.Array
	e     api.Errno
}

func run(t *testing.T, cases []pairs) {
	t.Helper()
	for k, c := range cases {
		a, b := roomy(c.a), roomy(c.b)
		before := snapshot(a) + snapshot(b)
		got, e := pick.Dyadic(env(1), c.glyph, a, b)
		expect(t, k, got, e, c.want, c.e)
		if snapshot(a)+snapshot(b) != before {
			t.Error(k, "changed")
		}
		apart(t, k, got, a, b)
	}
}

func TestPick(t *testing.T) { // P7.1
	m := arr([]int{2, 2}, num(1), boxed(text("ab")), num(3), boxed(vec(num(5), boxed(nums(6, 7)))))
	v := vec(boxed(nums(1, 2)), boxed(nums(3, 4)))
	path, noPath := func(l ...int) api.Item { return boxed(nums(l...)) }, boxed(none(num(0), 0))
	run(t, []pairs{
		{one(num(2)), '⊃', v, nums(3, 4), api.OK},
		{nums(2), '⊃', v, nums(3, 4), api.OK},
		{nums(2, 1), '⊃', v, one(num(3)), api.OK},
		{vec(path(2), path(1)), '⊃', v, one(num(3)), api.OK},
		{one(path(2, 1)), '⊃', m, one(num(3)), api.OK},
		{vec(path(1, 2), num(2)), '⊃', m, one(char('b')), api.OK},
		{vec(path(2, 2), num(2), num(1)), '⊃', m, one(num(6)), api.OK},
		{one(boxed(arr([]int{1, 2}, num(2), num(1)))), '⊃', m, one(num(3)), api.OK},
		{none(num(0), 0), '⊃', m, m, api.OK},
		{none(char(' '), 0), '⊃', none(char('a'), 0), none(char('a'), 0), api.OK},
		{one(noPath), '⊃', one(boxed(nums(1, 2))), nums(1, 2), api.OK},
		{one(noPath), '⊃', one(num(5)), one(num(5)), api.OK},
		{vec(noPath, num(2), noPath, boxed(none(char(' '), 0))), '⊃', one(boxed(nums(1, 2))), one(num(2)), api.OK},
		{one(num(1)), '⊃', vec(boxed(none(char(' '), 0)), num(1)), none(char(' '), 0), api.OK},
		{one(num(1)), '⊃', nums(7), one(num(7)), api.OK},
		{arr([]int{1, 1}, num(1)), '⊃', v, api.Array{}, api.Rank},
		{none(char(' '), 0, 0), '⊃', v, api.Array{}, api.Rank},
		{one(num(1)), '⊃', m, api.Array{}, api.Rank},
		{one(num(1)), '⊃', one(num(5)), api.Array{}, api.Rank},
		{nums(1, 1, 1), '⊃', v, api.Array{}, api.Rank},
		{one(path(1, 1)), '⊃', v, api.Array{}, api.Rank},
		{one(path(1)), '⊃', m, api.Array{}, api.Rank},
		{one(noPath), '⊃', v, api.Array{}, api.Rank},
		{one(path(1)), '⊃', one(boxed(nums(1))), api.Array{}, api.Rank},
		{one(char('a')), '⊃', v, api.Array{}, api.Domain},
		{one(char('a')), '⊃', m, api.Array{}, api.Domain}, // ahead of Rank
		{one(boxed(text("ab"))), '⊃', v, api.Array{}, api.Domain},
		{one(number(frac(1, 2))), '⊃', v, api.Array{}, api.Domain},
		{one(boxed(vec(num(9), number(frac(1, 2))))), '⊃', m, api.Array{}, api.Domain},
		{one(boxed(one(path(1)))), '⊃', v, api.Array{}, api.Domain},
		{one(num(0)), '⊃', v, api.Array{}, api.Index},
		{one(num(3)), '⊃', v, api.Array{}, api.Index},
		{one(great(false)), '⊃', v, api.Array{}, api.Index},
		{one(great(true)), '⊃', v, api.Array{}, api.Index},
		{one(path(2, 3)), '⊃', m, api.Array{}, api.Index},
		{one(path(3, 2)), '⊃', m, api.Array{}, api.Index},
		{one(num(1)), '⊃', none(num(0), 0), api.Array{}, api.Index},
		{one(path(1, 1)), '⊃', none(num(0), 3, 0), api.Array{}, api.Index},
		{vec(num(3), char('a')), '⊃', v, api.Array{}, api.Index}, // the first item of the path tells
		{vec(num(1), char('a')), '⊃', v, api.Array{}, api.Domain},
	})
	got, e := pick.Dyadic(env(0), '⊃', nums(1, 0), v)
	expect(t, "from 0 on", got, e, one(num(3)), api.OK)
	got, e = pick.Dyadic(env(0), '⊃', nums(2), v)
	expect(t, "from 0 on", got, e, api.Array{}, api.Index)
}

// TestPickEachItem: each item of an array has its path.
func TestPickEachItem(t *testing.T) { // P7.1
	for _, a := range samples() {
		for place, i := range array.Items(a) {
			var index []int
			for _, n := range indexOf(a.Shape, place) {
				index = append(index, n+1)
			}
			where := boxed(none(num(0), 0))
			if len(index) > 0 {
				where = boxed(nums(index...))
			}
			got, e := pick.Dyadic(env(1), '⊃', one(where), a)
			expect(t, place, got, e, array.Open(i), api.OK)
		}
	}
}

// sameItem holds items against each other as the document does.
func sameItem(i api.Item) func(api.Item) bool {
	return func(j api.Item) bool { return array.Match(array.Open(i), array.Open(j)) }
}

// itemsOf is a vector of a list; of an empty one the prototype.
func itemsOf(proto api.Item, l []api.Item) api.Array {
	if len(l) == 0 {
		return none(proto, 0)
	}
	return vec(l...)
}

// TestAmong holds all functions that look for items against what is looked for one by one.
func TestAmong(t *testing.T) { // P7.1, P7.9
	all := samples()
	for _, a := range all {
		for _, b := range all {
			own, others := array.Items(a), array.Items(b)
			var left, joined, bits, where []api.Item
			joined = slices.Clone(own)
			for _, i := range own {
				if slices.ContainsFunc(others, sameItem(i)) {
					bits = append(bits, num(1))
				} else {
					left, bits = append(left, i), append(bits, num(0))
				}
			}
			for _, i := range others {
				place := slices.IndexFunc(own, sameItem(i))
				if place < 0 {
					place = len(own)
				}
				where = append(where, num(place))
				if !slices.ContainsFunc(joined, sameItem(i)) {
					joined = append(joined, i)
				}
			}
			shaped := func(shape []int, l []api.Item) api.Array {
				return built(shape, num(0), func(index []int) api.Item { return l[placeOf(shape, index)] })
			}
			check := func(glyph rune, rank bool, want api.Array) {
				t.Helper()
				got, e := pick.Dyadic(env(0), glyph, a, b)
				if rank {
					expect(t, string(glyph), got, e, api.Array{}, api.Rank)
				} else {
					expect(t, string(glyph), got, e, want, api.OK)
				}
			}
			check('∊', false, shaped(a.Shape, bits))
			check('⍳', len(a.Shape) != 1, shaped(b.Shape, where))
			check('~', len(a.Shape) > 1, itemsOf(array.Proto(a), left))
			check('∪', max(len(a.Shape), len(b.Shape)) > 1, itemsOf(array.Proto(a), joined))
		}
	}
}

func TestFound(t *testing.T) { // P7.1
	v := nums(5, 6, 7, 5)
	run(t, []pairs{
		{v, '⍳', nums(7, 9), nums(3, 5), api.OK},
		{v, '⍳', one(num(5)), one(num(1)), api.OK},
		{v, '⍳', arr([]int{2, 2}, num(6), char('5'), boxed(nums(5)), num(7)), arr([]int{2, 2}, numItems(2, 5, 5, 3)...), api.OK},
		{none(char(' '), 0), '⍳', text("ab"), nums(1, 1), api.OK},
		{v, '⍳', none(char(' '), 2, 0), none(num(0), 2, 0), api.OK},
		{vec(boxed(nums(1, 2)), num(1)), '⍳', vec(boxed(nums(1, 2)), boxed(nums(1)), num(1)), nums(1, 3, 2), api.OK},
		{nums(sequence(4096)...), '⍳', nums(4096, 4097), nums(4096, 4097), api.OK},
		{one(num(5)), '⍳', v, api.Array{}, api.Rank},
		{counted(1, 1), '⍳', v, api.Array{}, api.Rank},
	})
	for _, io := range []int{0, 1} {
		got, e := pick.Dyadic(env(io), '⍳', v, nums(7, 9))
		expect(t, io, got, e, nums(2+io, 4+io), api.OK)
	}
}

func TestMemberWithoutUnion(t *testing.T) { // P7.1, P5
	many := nums(sequence(4096)...)
	heavy := full(1, 4095)
	other := vec(boxed(text("ab")))
	run(t, []pairs{
		{text("abc"), '∊', arr([]int{2, 2}, char('c'), char('x'), char('a'), num(1)), nums(1, 0, 1), api.OK},
		{one(num(1)), '∊', none(num(0), 0), one(num(0)), api.OK},
		{none(char(' '), 0, 2), '∊', nums(1), none(num(0), 0, 2), api.OK},
		{nums(1, 2, 1, 3), '~', nums(1), nums(2, 3), api.OK},
		{nums(2, 2, 1), '~', nums(1), nums(2, 2), api.OK},
		{one(num(1)), '~', nums(2), nums(1), api.OK},
		{one(char('a')), '~', text("ab"), none(char(' '), 0), api.OK},
		{vec(boxed(text("ab"))), '~', vec(boxed(text("ab")), num(1)), none(boxed(text("  ")), 0), api.OK},
		{nums(1, 2), '~', counted(2, 2), none(num(0), 0), api.OK},
		{none(char(' '), 0), '~', nums(1), none(char(' '), 0), api.OK},
		{counted(1, 1), '~', nums(1), api.Array{}, api.Rank},
		{nums(1, 1, 2), '∪', nums(3, 2, 3), nums(1, 1, 2, 3), api.OK},
		{one(num(1)), '∪', one(num(1)), nums(1), api.OK},
		{one(num(1)), '∪', one(num(2)), nums(1, 2), api.OK},
		{none(char(' '), 0), '∪', none(num(0), 0), none(char(' '), 0), api.OK},
		{none(num(0), 0), '∪', none(char(' '), 0), none(num(0), 0), api.OK},
		{none(char(' '), 0), '∪', nums(1, 1), nums(1), api.OK},
		{counted(1, 1), '∪', nums(1), api.Array{}, api.Rank},
		{nums(1), '∪', counted(1, 1), api.Array{}, api.Rank},
		{many, '∪', many, many, api.OK},
		{many, '∪', nums(4097), api.Array{}, api.Limit},
		{full(3, 4095), '∪', full(1, 4094), vec(append(full(3, 4095).Items, full(1, 4094).Items...)...), api.OK},
		{full(4, 4095), '∪', heavy, full(4, 4095), api.OK},
		{full(4, 4095), '∪', other, api.Array{}, api.Limit},
	})
}

func TestMatch(t *testing.T) { // P7.1
	for _, a := range samples() {
		for _, b := range samples() {
			bit := 0
			if array.Match(a, b) {
				bit = 1
			}
			got, e := pick.Dyadic(env(0), '≡', a, b)
			expect(t, "match", got, e, one(num(bit)), api.OK)
			got, e = pick.Dyadic(env(0), '≢', a, b)
			expect(t, "no match", got, e, one(num(1-bit)), api.OK)
		}
	}
	run(t, []pairs{
		{nums(1, 2), '≡', nums(1, 2), one(num(1)), api.OK},
		{none(num(0), 0), '≡', none(char(' '), 0), one(num(0)), api.OK},
		{nums(1), '≡', one(num(1)), one(num(0)), api.OK},
		{nums(1), '≢', one(num(1)), one(num(1)), api.OK},
	})
}

func TestEncode(t *testing.T) { // P7.1
	v := nums(10, 10)
	run(t, []pairs{
		{v, '⊤', one(num(37)), nums(3, 7), api.OK},
		{v, '⊤', one(num(137)), nums(3, 7), api.OK},
		{v, '⊤', one(num(-1)), nums(9, 9), api.OK},
		{v, '⊤', one(number(frac(5, 2))), vec(num(0), number(frac(5, 2))), api.OK},
		{v, '⊤', nums(12, 34, 56), arr([]int{2, 3}, numItems(1, 3, 5, 2, 4, 6)...), api.OK},
		{nums(24, 60), '⊤', counted(2, 2), arr([]int{2, 2, 2}, numItems(0, 0, 0, 0, 1, 2, 3, 4)...), api.OK},
		{one(num(10)), '⊤', one(num(37)), one(num(7)), api.OK},
		{one(num(10)), '⊤', nums(37, 4), nums(7, 4), api.OK},
		{nums(10), '⊤', nums(37, 4), arr([]int{1, 2}, num(7), num(4)), api.OK},
		{nums(0, 10), '⊤', one(num(137)), nums(13, 7), api.OK},
		{nums(10, 0), '⊤', one(num(137)), nums(0, 137), api.OK}, // behind a radix 0 nothing is left
		{nums(10, 0, 10), '⊤', one(num(137)), nums(0, 13, 7), api.OK},
		{nums(0, 0), '⊤', one(num(-5)), nums(0, -5), api.OK},
		{nums(0, 1), '⊤', one(number(frac(7, 2))), vec(num(3), number(frac(1, 2))), api.OK},
		{nums(-10, -10), '⊤', one(num(37)), nums(-4, -3), api.OK},
		{vec(num(10), number(frac(1, 2))), '⊤', one(number(frac(7, 4))), vec(num(3), number(frac(1, 4))), api.OK},
		{none(num(0), 0), '⊤', one(num(5)), none(num(0), 0), api.OK},
		{none(char(' '), 0), '⊤', counted(2, 2), none(num(0), 0, 2, 2), api.OK},
		{v, '⊤', none(char(' '), 0), none(num(0), 2, 0), api.OK},
		{v, '⊤', counted(1, 1, 1, 1, 1, 1, 1), arr([]int{2, 1, 1, 1, 1, 1, 1, 1}, num(0), num(1)), api.OK},
		{v, '⊤', counted(1, 1, 1, 1, 1, 1, 1, 1), api.Array{}, api.Rank},
		{v, '⊤', arr([]int{1, 1, 1, 1, 1, 1, 1, 1}, char('a')), api.Array{}, api.Rank},
		{one(num(10)), '⊤', arr([]int{1, 1, 1, 1, 1, 1, 1, 1}, num(12)), arr([]int{1, 1, 1, 1, 1, 1, 1, 1}, num(2)), api.OK},
		{counted(1, 1), '⊤', one(num(5)), api.Array{}, api.Rank},
		{arr([]int{1, 1}, char('a')), '⊤', one(char('a')), api.Array{}, api.Rank},
		{v, '⊤', one(char('5')), api.Array{}, api.Domain},
		{text("ab"), '⊤', one(num(5)), api.Array{}, api.Domain},
		{v, '⊤', vec(num(5), boxed(nums(1))), api.Array{}, api.Domain},
		{vec(boxed(nums(1)), num(1)), '⊤', one(num(5)), api.Array{}, api.Domain},
		{none(num(0), 0), '⊤', text("a"), api.Array{}, api.Domain},
		{text("a"), '⊤', none(num(0), 0), api.Array{}, api.Domain},
	})
}

func TestEncodeLimits(t *testing.T) { // P7.1, P5
	most, half := number(power(1023)), number(frac(1, 2))
	run(t, []pairs{
		{nums(slices.Repeat([]int{2}, 64)...), '⊤', nums(make([]int, 64)...), arr([]int{64, 64}, numItems(make([]int, 4096)...)...), api.OK},
		{nums(slices.Repeat([]int{2}, 64)...), '⊤', nums(make([]int, 65)...), api.Array{}, api.Limit},
		{nums(sequence(4096)...), '⊤', nums(sequence(4096)...), api.Array{}, api.Limit},
		{nums(sequence(4096)...), '⊤', vec(append(numItems(sequence(4095)...), char('a'))...), api.Array{}, api.Domain}, // ahead of Limit
		{none(num(0), 0), '⊤', nums(sequence(4096)...), none(num(0), 0, 4096), api.OK},
		{one(num(2)), '⊤', one(most), one(num(0)), api.OK},
		{one(half), '⊤', one(most), api.Array{}, api.Limit}, // how often 1r2 goes into it has a limb too much
		{vec(num(0), half), '⊤', one(most), api.Array{}, api.Limit},
		{vec(half, num(2)), '⊤', one(most), nums(0, 0), api.OK},
		{vec(num(0), num(1)), '⊤', one(most), vec(most, num(0)), api.OK},
	})
}

func TestDecode(t *testing.T) { // P7.1
	run(t, []pairs{
		{nums(24, 60), '⊥', nums(1, 30), one(num(90)), api.OK},
		{one(num(10)), '⊥', nums(1, 2, 3), one(num(123)), api.OK},
		{nums(10), '⊥', nums(1, 2, 3), one(num(123)), api.OK},
		{nums(10, 10, 10), '⊥', one(num(3)), one(num(333)), api.OK},
		{nums(7, 10, 5), '⊥', nums(3), one(num(168)), api.OK},
		{one(num(10)), '⊥', one(num(3)), one(num(3)), api.OK},
		{nums(99, 2, 3), '⊥', nums(1, 1, 1), one(num(10)), api.OK}, // the first radix plays no part
		{nums(99, 2, 0, 5), '⊥', nums(1, 1, 1, 1), one(num(6)), api.OK},
		{nums(-2, -2, -2), '⊥', nums(1, 0, 1), one(num(5)), api.OK},
		{one(number(frac(1, 2))), '⊥', vec(num(1), number(frac(1, 3))), one(number(frac(5, 6))), api.OK},
		{one(num(10)), '⊥', none(num(0), 0), one(num(0)), api.OK},
		{nums(1, 2, 3), '⊥', none(char(' '), 0), one(num(0)), api.OK},
		{none(num(0), 0), '⊥', none(num(0), 0), one(num(0)), api.OK},
		{none(num(0), 0), '⊥', one(num(5)), one(num(0)), api.OK},
		{none(char(' '), 0), '⊥', nums(5), one(num(0)), api.OK},
		{none(num(0), 0), '⊥', nums(5, 6), api.Array{}, api.Length},
		{nums(1, 2), '⊥', nums(1, 2, 3), api.Array{}, api.Length},
		{nums(1, 2, 3), '⊥', nums(1, 2), api.Array{}, api.Length},
		{text("ab"), '⊥', nums(1, 2, 3), api.Array{}, api.Domain}, // ahead of Length, as they are named
		{nums(1, 2), '⊥', text("abc"), api.Array{}, api.Domain},
		{nums(1, 2), '⊥', one(boxed(nums(1, 2))), api.Array{}, api.Domain},
		{one(char('a')), '⊥', none(num(0), 0), api.Array{}, api.Domain},
		{counted(1, 1), '⊥', nums(1), api.Array{}, api.Rank},
		{nums(1), '⊥', counted(1, 1), api.Array{}, api.Rank},
		{arr([]int{1, 1}, char('a')), '⊥', text("ab"), api.Array{}, api.Rank},
		{nums(1), '⊥', none(char(' '), 0, 0), api.Array{}, api.Rank},
		{one(num(2)), '⊥', nums(slices.Repeat([]int{1}, 1024)...), one(number(allBits())), api.OK},
		{one(num(2)), '⊥', nums(slices.Repeat([]int{1}, 1025)...), api.Array{}, api.Limit},
		{one(number(power(1000))), '⊥', nums(append(make([]int, 4095), 7)...), one(num(7)), api.OK}, // noughts ahead
		{one(number(power(1000))), '⊥', nums(1, 0, 0), api.Array{}, api.Limit},
		{one(num(1)), '⊥', nums(sequence(4096)...), one(num(4096 * 4097 / 2)), api.OK},
	})
}

// allBits is the greatest whole number that there is.
func allBits() api.Rat {
	return api.Rat{Num: slices.Repeat([]uint32{0xFFFFFFFF}, api.MaxLimbs), Den: []uint32{1}}
}

func toBig(x api.Rat) *big.Rat {
	back := func(l []uint32) *big.Int {
		n := new(big.Int)
		for _, limb := range slices.Backward(l) {
			n.Add(n.Lsh(n, 32), big.NewInt(int64(limb)))
		}
		return n
	}
	out := new(big.Rat).SetFrac(back(x.Num), back(x.Den))
	if x.Below {
		out.Neg(out)
	}
	return out
}

// TestEncodedAndDecoded holds what is encoded, and what is decoded, against rationals of any size.
func TestEncodedAndDecoded(t *testing.T) { // P7.5, P7.1, E7
	d := dice(1013904223)
	for range 400 {
		var radices, digits []api.Item
		product := big.NewRat(1, 1)
		for range 1 + d.next(5) {
			radix := number(frac(1+d.next(30), uint32(1+d.next(2)*d.next(4))))
			radices = append(radices, radix)
			product.Mul(product, toBig(radix.Num))
			digits = append(digits, number(frac(d.next(60)-20, uint32(1+d.next(3)))))
		}
		a := vec(radices...)
		for _, n := range []int{0, d.next(100), d.next(10000), d.next(1000000)} {
			if big.NewRat(int64(n), 1).Cmp(product) >= 0 {
				continue
			}
			encoded, e := pick.Dyadic(env(1), '⊤', a, one(num(n)))
			if e != api.OK || len(encoded.Items) != len(radices) {
				t.Fatal(encoded, e)
			}
			got, e := pick.Dyadic(env(1), '⊥', a, encoded)
			expect(t, n, got, e, one(num(n)), api.OK)
		}
		sum := new(big.Rat)
		for k, digit := range digits {
			term := toBig(digit.Num)
			for _, radix := range radices[k+1:] {
				term.Mul(term, toBig(radix.Num))
			}
			sum.Add(sum, term)
		}
		got, e := pick.Dyadic(env(1), '⊥', a, vec(digits...))
		if e != api.OK || len(got.Shape) > 0 || toBig(got.Items[0].Num).Cmp(sum) != 0 {
			t.Error(radices, digits, got, e)
		}
	}
}

// TestDigits holds each digit against the document's words.
func TestDigits(t *testing.T) { // P7.1
	d := dice(69069)
	for range 300 {
		var radices []api.Item
		for range 1 + d.next(4) {
			radices = append(radices, number(frac(d.next(15)-5, uint32(1+d.next(3)))))
		}
		n := frac(d.next(4000)-1000, uint32(1+d.next(4)))
		want, left := make([]api.Item, len(radices)), n
		for k := len(radices) - 1; k >= 0; k-- {
			digit, _ := rat.Residue(radices[k].Num, left)
			want[k] = number(digit)
			if rat.Sign(radices[k].Num) == 0 {
				left = rat.OfInt(0)
				continue
			}
			less, _ := rat.Sub(left, digit)
			left, _ = rat.Div(less, radices[k].Num)
		}
		got, e := pick.Dyadic(env(0), '⊤', vec(radices...), one(number(n)))
		expect(t, n, got, e, vec(want...), api.OK)
	}
}

func TestIndex(t *testing.T) { // P7.1, P7.2
	v, m := nums(5, 6, 7), counted(2, 3)
	noPlace := none(num(0), 0)
	run(t, []pairs{
		{one(num(2)), '⌷', v, one(num(6)), api.OK},
		{nums(2), '⌷', v, one(num(6)), api.OK},
		{one(boxed(nums(3, 1))), '⌷', v, nums(7, 5), api.OK},
		{vec(boxed(nums(3, 1))), '⌷', v, nums(7, 5), api.OK},
		{nums(2, 3), '⌷', m, one(num(6)), api.OK},
		{vec(num(2), boxed(nums(3, 1))), '⌷', m, nums(6, 4), api.OK},
		{vec(boxed(nums(2, 1)), boxed(arr([]int{1, 1}, num(3)))), '⌷', m, arr([]int{2, 1, 1}, num(6), num(3)), api.OK},
		{noPlace, '⌷', one(num(5)), one(num(5)), api.OK},
		{none(char(' '), 0), '⌷', one(boxed(nums(1))), one(boxed(nums(1))), api.OK},
		{one(boxed(noPlace)), '⌷', text("abc"), none(char(' '), 0), api.OK}, // At's prototype
		{counted(1, 1), '⌷', v, api.Array{}, api.Rank},
		{nums(1, 1), '⌷', v, api.Array{}, api.Rank},
		{one(num(1)), '⌷', m, api.Array{}, api.Rank},
		{one(num(1)), '⌷', one(num(5)), api.Array{}, api.Rank},
		{noPlace, '⌷', v, api.Array{}, api.Rank},
		{one(char('a')), '⌷', v, api.Array{}, api.Domain},
		{one(boxed(vec(boxed(nums(1))))), '⌷', v, api.Array{}, api.Domain},
		{one(num(4)), '⌷', v, api.Array{}, api.Index},
		{one(num(0)), '⌷', v, api.Array{}, api.Index},
		{vec(num(3), char('a')), '⌷', m, api.Array{}, api.Index},
		{vec(boxed(nums(slices.Repeat([]int{1}, 65)...)), boxed(nums(slices.Repeat([]int{1}, 64)...))), '⌷', m, api.Array{}, api.Limit},
	})
	got, e := pick.Dyadic(env(0), '⌷', nums(1, 0), m)
	expect(t, "from 0 on", got, e, one(num(4)), api.OK)
}
