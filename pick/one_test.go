package pick_test

import (
	"slices"
	"testing"

	"glyph/api"
	"glyph/array"
	"glyph/pick"
)

// single is a case of a function of one array, with the origin 1.
type single struct {
	glyph rune
	a     api.Array
	want  api.Array
	e     api.Errno
}

func runOne(t *testing.T, cases []single) {
	t.Helper()
	for k, c := range cases {
		a := roomy(c.a)
		before := snapshot(a)
		got, e := pick.Monadic(env(1), c.glyph, a)
		expect(t, k, got, e, c.want, c.e)
		if snapshot(a) != before {
			t.Error(k, "changed")
		}
		apart(t, k, got, a)
	}
}

// full is a vector of n boxes of m numbers each.
func full(n, m int) api.Array {
	return vec(slices.Repeat([]api.Item{boxed(nums(sequence(m)...))}, n)...)
}

func TestEnclose(t *testing.T) { // P7.1
	runOne(t, []single{
		{'⊂', one(num(5)), one(num(5)), api.OK},
		{'⊂', one(char('a')), one(char('a')), api.OK},
		{'⊂', nums(5), one(boxed(nums(5))), api.OK},
		{'⊂', none(char(' '), 0), one(boxed(none(char(' '), 0))), api.OK},
		{'⊂', one(boxed(nums(1, 2))), one(boxed(one(boxed(nums(1, 2))))), api.OK},
		{'⊂', counted(2, 3), one(boxed(counted(2, 3))), api.OK},
		{'⊂', deep(api.MaxDepth - 1), deep(api.MaxDepth), api.OK},
		{'⊂', deep(api.MaxDepth), api.Array{}, api.Limit},
		{'⊂', full(4, 4094), one(boxed(full(4, 4094))), api.OK}, // 16380 cells, and one more
		{'⊂', full(4, 4095), api.Array{}, api.Limit},            // 16384 cells, and one more
	})
}

func TestDisclose(t *testing.T) { // P7.1
	blanks, noText, noNumbers := text("  "), none(char(' '), 0), none(num(0), 0)
	runOne(t, []single{
		{'⊃', vec(boxed(nums(1, 2)), boxed(nums(3))), arr([]int{2, 2}, numItems(1, 2, 3, 0)...), api.OK},
		{'⊃', one(num(5)), one(num(5)), api.OK},
		{'⊃', nums(1, 2), nums(1, 2), api.OK},
		{'⊃', one(boxed(nums(1, 2))), nums(1, 2), api.OK},
		{'⊃', one(boxed(one(boxed(nums(1, 2))))), one(boxed(nums(1, 2))), api.OK},
		{'⊃', vec(num(7), boxed(nums(1, 2))), arr([]int{2, 2}, numItems(7, 0, 1, 2)...), api.OK},
		{'⊃', vec(boxed(text("abc")), boxed(nums(1, 2)), char('d')), arr([]int{3, 3}, char('a'), char('b'), char('c'), num(1), num(2), num(0), char('d'), char(' '), char(' ')), api.OK},
		{'⊃', vec(boxed(nums(7, 8, 9)), boxed(counted(2, 2))), arr([]int{2, 2, 3}, numItems(7, 8, 9, 0, 0, 0, 1, 2, 0, 3, 4, 0)...), api.OK},
		{'⊃', arr([]int{1, 2}, boxed(nums(1, 2)), boxed(nums(3))), arr([]int{1, 2, 2}, numItems(1, 2, 3, 0)...), api.OK},
		{'⊃', vec(boxed(vec(boxed(text("ab")))), boxed(nums(1, 2))), arr([]int{2, 2}, boxed(text("ab")), boxed(blanks), num(1), num(2)), api.OK},
		{'⊃', vec(boxed(noText), boxed(nums(1, 2))), arr([]int{2, 2}, char(' '), char(' '), num(1), num(2)), api.OK},
		{'⊃', vec(boxed(noText), num(1)), arr([]int{2, 1}, char(' '), num(1)), api.OK},
		{'⊃', vec(boxed(noText), boxed(noNumbers)), none(char(' '), 2, 0), api.OK},
		{'⊃', vec(boxed(noNumbers), boxed(noText)), none(num(0), 2, 0), api.OK},
		{'⊃', vec(boxed(noNumbers), boxed(none(char(' '), 0, 3))), arr([]int{2, 1, 3}, num(0), num(0), num(0), char(' '), char(' '), char(' ')), api.OK},
		{'⊃', one(boxed(none(char(' '), 3, 0))), none(char(' '), 3, 0), api.OK},
		{'⊃', noNumbers, noNumbers, api.OK},
		{'⊃', none(char(' '), 0, 3), none(char(' '), 0, 3), api.OK},
		{'⊃', none(boxed(blanks), 0), none(char(' '), 0, 2), api.OK},
		{'⊃', none(boxed(text("ab")), 0), none(char(' '), 0, 2), api.OK},
		{'⊃', none(boxed(noText), 3, 0), none(char(' '), 3, 0, 0), api.OK},
		{'⊃', none(boxed(vec(boxed(nums(0)))), 0), none(boxed(nums(0)), 0, 1), api.OK},
	})
}

func TestDiscloseLimits(t *testing.T) { // P7.1, P5
	four, five := boxed(counted(1, 1, 1, 1)), boxed(counted(1, 1, 1, 1, 1))
	heavy, heavier := boxed(full(1, 4094)), boxed(full(1, 4095)) // their prototypes have 4095 and 4096 cells
	blank := array.Proto(heavy.Box[0])
	runOne(t, []single{
		{'⊃', arr([]int{1, 1, 1, 1}, four), counted(1, 1, 1, 1, 1, 1, 1, 1), api.OK},
		{'⊃', arr([]int{1, 1, 1, 1}, five), api.Array{}, api.Rank},
		{'⊃', arr([]int{2, 1, 1, 1}, num(1), five), api.Array{}, api.Rank},
		{'⊃', none(five, 1, 0, 1, 4000), api.Array{}, api.Rank},
		{'⊃', none(five, 1, 0, 4000), none(num(0), 1, 0, 4000, 1, 1, 1, 1, 1), api.OK},
		{'⊃', full(2, 2048), arr([]int{2, 2048}, numItems(append(sequence(2048), sequence(2048)...)...)...), api.OK},
		{'⊃', full(2, 2049), api.Array{}, api.Limit},
		{'⊃', vec(boxed(nums(sequence(4096)...)), num(1)), api.Array{}, api.Limit},
		{'⊃', vec(heavy, boxed(nums(1, 2, 3, 4))), arr([]int{2, 4}, heavy.Box[0].Items[0], blank, blank, blank, num(1), num(2), num(3), num(4)), api.OK},
		{'⊃', vec(heavier, boxed(nums(1, 2, 3, 4))), api.Array{}, api.Limit},
		{'⊃', vec(heavy, boxed(nums(sequence(2000)...))), api.Array{}, api.Limit},
		{'⊃', one(boxed(none(num(0), 4096, 4096, 0))), none(num(0), 4096, 4096, 0), api.OK},
	})
}

// disclosed is what is disclosed as the document says it.
func disclosed(a api.Array) (api.Array, api.Errno) {
	l := array.Items(a)
	if len(l) == 0 {
		l = []api.Item{array.Proto(a)}
	}
	rank := 0
	for _, i := range l {
		rank = max(rank, len(array.Open(i).Shape))
	}
	if len(a.Shape)+rank > api.MaxRank {
		return api.Array{}, api.Rank
	}
	shape, own := slices.Clone(a.Shape), [][]int{}
	for range rank {
		shape = append(shape, 0)
	}
	for _, i := range l {
		lengths := array.Open(i).Shape
		for len(lengths) < rank {
			lengths = append([]int{1}, lengths...)
		}
		own = append(own, lengths)
		for k, n := range lengths {
			shape[len(a.Shape)+k] = max(shape[len(a.Shape)+k], n)
		}
	}
	return built(shape, array.Proto(array.Open(l[0])), func(index []int) api.Item {
		place := placeOf(a.Shape, index[:len(a.Shape)])
		part, inner := array.Open(l[place]), index[len(a.Shape):]
		for k, n := range inner {
			if n >= own[place][k] {
				return array.Proto(part)
			}
		}
		return part.Items[placeOf(own[place], inner)]
	}), api.OK
}

func TestDiscloseEachPlace(t *testing.T) { // P7.1, P7.7
	d := dice(2463534242)
	l := samples()
	for range 300 {
		l = append(l, randomArray(&d, 3))
	}
	for _, a := range l {
		want, wantE := disclosed(a)
		got, e := pick.Monadic(env(0), '⊃', a)
		expect(t, a, got, e, want, wantE)
	}
}

// TestOpened: what is enclosed comes back.
func TestOpened(t *testing.T) { // P7.1
	for _, a := range samples() {
		scalar, e := pick.Monadic(env(0), '⊂', a)
		if e == api.Limit && array.Depth(a) == api.MaxDepth {
			continue
		}
		got, e := pick.Monadic(env(0), '↑', scalar)
		expect(t, "first", got, e, a, api.OK)
		if sizeOf(a.Shape) > 0 {
			got, e = pick.Monadic(env(0), '⊃', scalar)
			expect(t, "disclosed", got, e, a, api.OK)
		}
	}
}

func TestFirst(t *testing.T) { // P7.1
	runOne(t, []single{
		{'↑', one(num(5)), one(num(5)), api.OK},
		{'↑', nums(7, 8), one(num(7)), api.OK},
		{'↑', text("abc"), one(char('a')), api.OK},
		{'↑', counted(2, 3), one(num(1)), api.OK},
		{'↑', vec(boxed(nums(1, 2)), num(3)), nums(1, 2), api.OK},
		{'↑', one(boxed(one(boxed(nums(1))))), one(boxed(nums(1))), api.OK},
		{'↑', vec(boxed(none(char(' '), 0)), num(3)), none(char(' '), 0), api.OK},
		{'↑', none(num(0), 0), one(num(0)), api.OK},
		{'↑', none(num(5), 0), one(num(0)), api.OK},
		{'↑', none(char(' '), 3, 0), one(char(' ')), api.OK},
		{'↑', none(boxed(nums(0, 0)), 0), nums(0, 0), api.OK},
		{'↑', none(boxed(vec(num(1), char('a'))), 0), vec(num(0), char(' ')), api.OK},
		{'↑', deep(api.MaxDepth), deep(api.MaxDepth - 1), api.OK},
	})
}

func TestEnlist(t *testing.T) { // P7.1
	nested := vec(num(1), boxed(vec(boxed(text("ab")), num(2))), boxed(arr([]int{2, 1}, boxed(nums(3)), num(4))))
	runOne(t, []single{
		{'∊', one(num(5)), nums(5), api.OK},
		{'∊', counted(2, 3), nums(sequence(6)...), api.OK},
		{'∊', nested, vec(num(1), char('a'), char('b'), num(2), num(3), num(4)), api.OK},
		{'∊', deep(api.MaxDepth), nums(1, 0), api.OK},
		{'∊', vec(boxed(none(char(' '), 0)), num(3)), nums(3), api.OK},
		{'∊', vec(num(3), boxed(none(num(0), 0, 4)), boxed(text("a"))), vec(num(3), char('a')), api.OK},
		{'∊', none(num(0), 0), none(num(0), 0), api.OK},
		{'∊', none(char('x'), 3, 0), none(char(' '), 0), api.OK},
		{'∊', none(boxed(vec(boxed(text("ab")), num(1))), 0), none(char(' '), 0), api.OK},
		{'∊', vec(boxed(none(char(' '), 0)), boxed(none(num(0), 0))), none(char(' '), 0), api.OK},
		{'∊', vec(boxed(none(num(0), 0)), boxed(none(char(' '), 0))), none(num(0), 0), api.OK},
		{'∊', one(boxed(none(boxed(none(boxed(text("ab")), 2, 0)), 0))), none(char(' '), 0), api.OK},
		{'∊', full(4, 1024), nums(slices.Repeat(sequence(1024), 4)...), api.OK},
		{'∊', vec(boxed(full(4, 1024)), num(1)), api.Array{}, api.Limit},
		{'∊', full(4, 4095), api.Array{}, api.Limit},
	})
}

func TestGrade(t *testing.T) { // P7.1, P7.4
	runOne(t, []single{
		{'⍋', nums(3, 1, 2), nums(2, 3, 1), api.OK},
		{'⍒', nums(3, 1, 2), nums(1, 3, 2), api.OK},
		{'⍋', nums(1, 2, 1, 2, 1), nums(1, 3, 5, 2, 4), api.OK},
		{'⍒', nums(1, 2, 1, 2, 1), nums(2, 4, 1, 3, 5), api.OK},
		{'⍋', text("cab"), nums(2, 3, 1), api.OK},
		{'⍋', vec(boxed(nums(1, 2)), char('a'), num(5), boxed(nums(9)), number(frac(1, 2))), nums(5, 3, 2, 4, 1), api.OK},
		{'⍒', vec(boxed(nums(1, 2)), char('a'), num(5), boxed(nums(9)), number(frac(1, 2))), nums(1, 4, 2, 3, 5), api.OK},
		{'⍋', nums(7), nums(1), api.OK},
		{'⍋', none(char(' '), 0), none(num(0), 0), api.OK},
		{'⍒', none(boxed(nums(0)), 0), none(num(0), 0), api.OK},
		{'⍋', nums(slices.Repeat([]int{7}, 4096)...), nums(sequence(4096)...), api.OK},
		{'⍒', nums(slices.Repeat([]int{7}, 4096)...), nums(sequence(4096)...), api.OK},
		{'⍋', one(num(1)), api.Array{}, api.Rank},
		{'⍒', one(boxed(nums(1))), api.Array{}, api.Rank},
		{'⍋', counted(1, 2), api.Array{}, api.Rank},
		{'⍒', none(num(0), 0, 0), api.Array{}, api.Rank},
	})
	got, e := pick.Monadic(env(0), '⍋', nums(3, 1, 2))
	expect(t, "from 0 on", got, e, nums(1, 2, 0), api.OK)
	got, e = pick.Monadic(env(0), '⍒', nums(3, 1, 2))
	expect(t, "from 0 on", got, e, nums(0, 2, 1), api.OK)
}

// vectors are samples with one axis, and rows of random items.
func vectors() []api.Array {
	var out []api.Array
	for _, a := range samples() {
		if len(a.Shape) == 1 {
			out = append(out, a)
		}
	}
	d := dice(88172645463325252)
	for range 40 {
		var l []api.Item
		for range 1 + d.next(12) {
			l = append(l, randomItem(&d, 2))
		}
		out = append(out, vec(l...))
	}
	var many []api.Item // so many that like ones would not stay as they stand by chance
	for range 1000 {
		many = append(many, num(d.next(4)))
	}
	return append(out, vec(rising()...), vec(many...))
}

// TestGradeIsInOrder: like ones stay as they stand, both ways.
func TestGradeIsInOrder(t *testing.T) { // P7.4, E7
	for _, a := range vectors() {
		for _, io := range []int{0, 1} {
			for sign, glyph := range map[int]rune{1: '⍋', -1: '⍒'} {
				grade, e := pick.Monadic(env(io), glyph, a)
				if e != api.OK {
					t.Fatal(e)
				}
				got, e := pick.At(env(io), a, []api.Array{grade})
				if e != api.OK {
					t.Fatal(e)
				}
				l, _ := array.ToInts(grade)
				for i := 1; i < len(l); i++ {
					if rise := sign * pick.Order(got.Items[i-1], got.Items[i]); rise > 0 || rise == 0 && l[i-1] > l[i] {
						t.Error("not in order", got, l)
					}
				}
				slices.Sort(l)
				for i, n := range l {
					if n != i+io {
						t.Error("not all places", l)
					}
				}
			}
		}
	}
}

func TestUnique(t *testing.T) { // P7.1, P7.9
	mixed := vec(num(1), char('1'), boxed(nums(1)), num(1), boxed(none(num(0), 0)), boxed(none(char(' '), 0)), boxed(nums(1)), char('1'), boxed(none(num(0), 0)), boxed(arr([]int{1, 1}, num(1))))
	runOne(t, []single{
		{'∪', nums(3, 1, 3, 2, 1), nums(3, 1, 2), api.OK},
		{'∪', text("abracadabra"), text("abrcd"), api.OK},
		{'∪', mixed, vec(num(1), char('1'), boxed(nums(1)), boxed(none(num(0), 0)), boxed(none(char(' '), 0)), boxed(arr([]int{1, 1}, num(1)))), api.OK},
		{'∪', vec(number(frac(1, 2)), number(frac(-1, 2)), number(frac(2, 4)), num(2)), vec(number(frac(1, 2)), number(frac(-1, 2)), num(2)), api.OK},
		{'∪', one(num(5)), nums(5), api.OK},
		{'∪', one(boxed(nums(1, 2))), vec(boxed(nums(1, 2))), api.OK},
		{'∪', none(num(0), 0), none(num(0), 0), api.OK},
		{'∪', none(char('a'), 0), none(char(' '), 0), api.OK},
		{'∪', none(boxed(nums(1)), 0), none(boxed(nums(0)), 0), api.OK},
		{'∪', nums(sequence(4096)...), nums(sequence(4096)...), api.OK},
		{'∪', counted(1, 1), api.Array{}, api.Rank},
		{'∪', none(num(0), 0, 0), api.Array{}, api.Rank},
	})
}

// TestUniqueItems: of each two items of some that are all unlike, both stay.
func TestUniqueItems(t *testing.T) { // P7.9, P7.1
	for _, a := range vectors() {
		got, e := pick.Monadic(env(1), '∪', a)
		if e != api.OK {
			t.Fatal(e)
		}
		var want []api.Item
		for _, i := range array.Items(a) {
			if !slices.ContainsFunc(want, func(j api.Item) bool { return array.Match(array.Open(i), array.Open(j)) }) {
				want = append(want, i)
			}
		}
		if len(want) == 0 {
			expect(t, a, got, e, none(array.Proto(a), 0), api.OK)
		} else {
			expect(t, a, got, e, vec(want...), api.OK)
		}
		again, e := pick.Monadic(env(1), '∪', got)
		expect(t, "again", again, e, got, api.OK)
		left, e := pick.Dyadic(env(1), '~', got, a)
		expect(t, "left", left, e, none(array.Proto(a), 0), api.OK)
	}
}

func TestDepthAndTally(t *testing.T) { // P7.1
	for _, a := range samples() {
		got, e := pick.Monadic(env(0), '≡', a)
		expect(t, a, got, e, one(num(array.Depth(a))), api.OK)
		long := 1
		if len(a.Shape) > 0 {
			long = a.Shape[0]
		}
		got, e = pick.Monadic(env(0), '≢', a)
		expect(t, a, got, e, one(num(long)), api.OK)
	}
	runOne(t, []single{
		{'≡', one(num(5)), one(num(0)), api.OK},
		{'≡', nums(5), one(num(1)), api.OK},
		{'≡', none(boxed(nums(0)), 0), one(num(2)), api.OK},
		{'≡', deep(api.MaxDepth), one(num(api.MaxDepth)), api.OK},
		{'≢', one(boxed(nums(1, 2))), one(num(1)), api.OK},
		{'≢', none(num(0), 3, 0), one(num(3)), api.OK},
		{'≢', none(num(0), 0, 3), one(num(0)), api.OK},
		{'≢', counted(2, 3), one(num(2)), api.OK},
	})
}

func TestCount(t *testing.T) { // P7.1, P5
	runOne(t, []single{
		{'⍳', one(num(3)), nums(1, 2, 3), api.OK},
		{'⍳', nums(3), nums(1, 2, 3), api.OK},
		{'⍳', one(num(1)), nums(1), api.OK},
		{'⍳', one(num(0)), none(num(0), 0), api.OK},
		{'⍳', one(num(4096)), nums(sequence(4096)...), api.OK},
		{'⍳', one(num(4097)), api.Array{}, api.Limit},
		{'⍳', one(great(false)), api.Array{}, api.Limit},
		{'⍳', one(number(power(1000))), api.Array{}, api.Limit},
		{'⍳', one(num(-1)), api.Array{}, api.Domain},
		{'⍳', one(great(true)), api.Array{}, api.Domain},
		{'⍳', one(number(frac(1, 2))), api.Array{}, api.Domain},
		{'⍳', one(number(frac(-9, 2))), api.Array{}, api.Domain},
		{'⍳', text("a"), api.Array{}, api.Domain},
		{'⍳', one(boxed(nums(3))), api.Array{}, api.Domain},
		{'⍳', nums(1, 2), api.Array{}, api.Length},
		{'⍳', text("ab"), api.Array{}, api.Length},
		{'⍳', none(num(0), 0), api.Array{}, api.Length},
		{'⍳', arr([]int{1, 1}, num(3)), api.Array{}, api.Rank},
		{'⍳', none(num(0), 0, 0), api.Array{}, api.Rank},
		{'⍳', arr([]int{1, 1}, char('a')), api.Array{}, api.Rank},
	})
	got, e := pick.Monadic(env(0), '⍳', one(num(3)))
	expect(t, "from 0 on", got, e, nums(0, 1, 2), api.OK)
}
