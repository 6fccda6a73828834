package scalar_test

import (
	"slices"
	"strings"
	"testing"

	"glyph/api"
	"glyph/array"
	"glyph/rat"
	"glyph/scalar"
)

func sizeOf(shape []int) int {
	n := 1
	for _, k := range shape {
		n *= k
	}
	return n
}

// wantMonadic goes through an array as the document says, item by item.
func wantMonadic(glyph rune, a api.Array) (api.Array, api.Errno) {
	if sizeOf(a.Shape) == 0 {
		return none(num(0), a.Shape...), api.OK
	}
	out := api.Array{Shape: a.Shape}
	for _, i := range a.Items {
		switch i.Kind {
		case api.Char:
			return api.Array{}, api.Domain
		case api.Box:
			inner, e := wantMonadic(glyph, array.Open(i))
			if e != api.OK {
				return inner, e
			}
			out.Items = append(out.Items, array.Enclose(inner))
		default:
			x, e := scalar.One(plain(), glyph, i.Num)
			if e != api.OK {
				return api.Array{}, e
			}
			out.Items = append(out.Items, number(x))
		}
	}
	return out, api.OK
}

func TestMonadic(t *testing.T) { // P5.2, P5.6, P3
	for _, glyph := range monadic {
		for _, a := range samples() {
			in := roomy(a)
			before := snapshot(in)
			got, e := scalar.Monadic(plain(), glyph, in)
			want, wantE := wantMonadic(glyph, a)
			expect(t, string(glyph), got, e, want, wantE)
			if snapshot(in) != before {
				t.Error(string(glyph), "changed", a)
			}
			apart(t, string(glyph), got, in)
		}
	}
}

func TestMonadicCases(t *testing.T) { // P5.2
	nested := vec(boxed(nums(1, 2)), num(3))
	great := nums(sequence(api.MaxItems)...)
	opposite := arr([]int{api.MaxItems})
	for n := range api.MaxItems {
		opposite.Items = append(opposite.Items, num(-n-1))
	}
	cases := []struct {
		glyph rune
		a     api.Array
		want  api.Array
		e     api.Errno
	}{
		{'-', nested, vec(boxed(nums(-1, -2)), num(-3)), api.OK},
		{'+', nested, nested, api.OK},
		{'~', vec(boxed(vec(boxed(nums(1, 0)), num(1)))), vec(boxed(vec(boxed(nums(0, 1)), num(0)))), api.OK},
		{'-', one(boxed(one(boxed(nums(1))))), one(boxed(one(boxed(nums(-1))))), api.OK},
		{'-', none(char(' '), 0), none(num(0), 0), api.OK},
		{'÷', none(boxed(text("  ")), 0, 4), none(num(0), 0, 4), api.OK},
		{'-', one(boxed(none(char(' '), 2, 0))), one(boxed(none(num(0), 2, 0))), api.OK},
		{'-', arr([]int{1, 1, 1, 1, 1, 1, 1, 1}, num(4)), arr([]int{1, 1, 1, 1, 1, 1, 1, 1}, num(-4)), api.OK},
		{'-', none(num(0), 0, 0, 0, 0, 0, 0, 0, 0), none(num(0), 0, 0, 0, 0, 0, 0, 0, 0), api.OK},
		{'-', great, opposite, api.OK},
		{'+', deep(api.MaxDepth), deep(api.MaxDepth), api.OK},
		{'÷', nums(1, 0), api.Array{}, api.Domain},
		{'-', text("a"), api.Array{}, api.Domain},
		{'+', vec(num(1), boxed(vec(num(1), char('a')))), api.Array{}, api.Domain},
		{'!', vec(num(171), char('a')), api.Array{}, api.Limit},
		{'!', vec(char('a'), num(171)), api.Array{}, api.Domain},
		{'!', vec(boxed(nums(1, 171)), num(-1)), api.Array{}, api.Limit},
		{'!', vec(boxed(nums(1, -1)), num(171)), api.Array{}, api.Domain},
	}
	for k, c := range cases {
		got, e := scalar.Monadic(plain(), c.glyph, c.a)
		expect(t, k, got, e, c.want, c.e)
	}
}

func TestMonadicErrors(t *testing.T) { // P5.2, P1, P2
	for _, a := range append(wrongArrays(), nums(1), text("a")) {
		for _, glyph := range append(noGlyphs(), []rune("<≤=≥>≠∧∨⍲⍱")...) {
			got, e := scalar.Monadic(api.Env{}, glyph, a)
			expect(t, glyph, got, e, api.Array{}, api.ErrNone)
		}
	}
	for _, glyph := range monadic {
		for _, a := range wrongArrays() {
			got, e := scalar.Monadic(plain(), glyph, a)
			expect(t, string(glyph), got, e, api.Array{}, api.ErrForm)
		}
		for _, ct := range wrongNumbers() {
			got, e := scalar.Monadic(env(ct), glyph, nums(1))
			expect(t, string(glyph), got, e, api.Array{}, api.ErrForm)
		}
	}
}

// wantShape is that of two arrays that go together.
func wantShape(a, b api.Array) ([]int, api.Errno) {
	p, q := sizeOf(a.Shape) == 1, sizeOf(b.Shape) == 1
	switch {
	case slices.Equal(a.Shape, b.Shape):
		return a.Shape, api.OK
	case p && q && len(a.Shape) > len(b.Shape):
		return a.Shape, api.OK
	case p:
		return b.Shape, api.OK
	case q:
		return a.Shape, api.OK
	case len(a.Shape) == len(b.Shape):
		return nil, api.Length
	}
	return nil, api.Rank
}

// wantDyadic goes through two arrays as the document says, item by item.
func wantDyadic(e api.Env, glyph rune, a, b api.Array) (api.Array, api.Errno) {
	shape, x := wantShape(a, b)
	if x != api.OK {
		return api.Array{}, x
	}
	if sizeOf(shape) == 0 {
		return array.Make(shape, num(0))
	}
	var items []api.Item
	for k := range sizeOf(shape) {
		i, x := wantItems(e, glyph, a.Items[k%len(a.Items)], b.Items[k%len(b.Items)])
		if x != api.OK {
			return api.Array{}, x
		}
		items = append(items, i)
	}
	return array.Make(shape, items...)
}

func wantItems(e api.Env, glyph rune, i, j api.Item) (api.Item, api.Errno) {
	same := 0
	if i.Kind == j.Kind && i.Char == j.Char {
		same = 1
	}
	switch {
	case i.Kind == api.Box || j.Kind == api.Box:
		a, x := wantDyadic(e, glyph, array.Open(i), array.Open(j))
		return array.Enclose(a), x
	case i.Kind == api.Number && j.Kind == api.Number:
		n, x := scalar.Two(e, glyph, i.Num, j.Num)
		return number(n), x
	case glyph == '=':
		return num(same), api.OK
	case glyph == '≠':
		return num(1 - same), api.OK
	}
	return api.Item{}, api.Domain
}

func TestDyadic(t *testing.T) { // P5.2, P5.4, P5.6
	all := samples()
	for _, glyph := range dyadic {
		for _, a := range all {
			for _, b := range all {
				got, e := scalar.Dyadic(plain(), glyph, a, b)
				want, wantE := wantDyadic(plain(), glyph, a, b)
				expect(t, string(glyph), got, e, want, wantE)
				if strings.ContainsRune("+×=≠∧∨⌈⌊⍲⍱", glyph) {
					back, backE := scalar.Dyadic(plain(), glyph, b, a)
					expect(t, "turned about "+string(glyph), back, backE, got, e)
				}
			}
		}
	}
}

func TestDyadicCases(t *testing.T) { // P5.2
	matrix := arr([]int{2, 2}, numItems(1, 2, 3, 4)...)
	ones := []int{1, 1, 1, 1, 1, 1, 1, 1}
	cases := []struct {
		a     api.Array
		glyph rune
		b     api.Array
		want  api.Array
		e     api.Errno
	}{
		{nums(1, 2, 3), '+', one(num(10)), nums(11, 12, 13), api.OK},
		{nums(1, 2), '=', vec(num(1), char('a')), nums(1, 0), api.OK},
		{vec(boxed(nums(1, 2)), num(3)), '+', one(num(1)), vec(boxed(nums(2, 3)), num(4)), api.OK},
		{text("abc"), '=', text("abd"), nums(1, 1, 0), api.OK},
		{text("abc"), '≠', text("abd"), nums(0, 0, 1), api.OK},
		{one(char(0)), '=', one(num(0)), one(num(0)), api.OK},
		{one(char('1')), '≠', one(num(1)), one(num(1)), api.OK},
		{one(num(10)), '-', nums(1), nums(9), api.OK},
		{nums(10), '-', one(num(1)), nums(9), api.OK},
		{nums(10), '-', arr([]int{1, 1}, num(1)), arr([]int{1, 1}, num(9)), api.OK},
		{arr(ones, num(10)), '-', nums(1), arr(ones, num(9)), api.OK},
		{arr(ones, num(10)), '-', nums(1, 2), nums(9, 8), api.OK},
		{matrix, '-', nums(1), arr([]int{2, 2}, numItems(0, 1, 2, 3)...), api.OK},
		{none(char(' '), 0), '+', one(num(1)), none(num(0), 0), api.OK},
		{one(char('a')), '+', none(num(0), 3, 0), none(num(0), 3, 0), api.OK},
		{arr([]int{1, 1}, num(1)), '+', none(num(0), 0), none(num(0), 0), api.OK},
		{none(boxed(nums(0, 0)), 0), '+', none(char(' '), 0), none(num(0), 0), api.OK},
		{none(num(0), 0), '+', nums(1, 2), api.Array{}, api.Length},
		{none(num(0), 0, 2), '+', none(num(0), 2, 0), api.Array{}, api.Length},
		{none(num(0), 0, 2), '+', none(num(0), 0), api.Array{}, api.Rank},
		{nums(1, 2), '+', nums(1, 2, 3), api.Array{}, api.Length},
		{nums(1, 2), '+', matrix, api.Array{}, api.Rank},
		{text("ab"), '+', matrix, api.Array{}, api.Rank},
		{text("ab"), '+', nums(1, 2, 3), api.Array{}, api.Length},
		{one(boxed(nums(1, 2))), '+', nums(10, 20), vec(boxed(nums(11, 12)), boxed(nums(21, 22))), api.OK},
		{one(boxed(nums(1, 2))), '+', one(boxed(nums(10, 20))), one(boxed(nums(11, 22))), api.OK},
		{vec(boxed(nums(1))), '+', vec(boxed(nums(10, 20))), vec(boxed(nums(11, 21))), api.OK},
		{vec(boxed(one(boxed(nums(1, 2))))), '×', vec(boxed(nums(1, 2))), vec(boxed(vec(boxed(nums(1, 2)), boxed(nums(2, 4))))), api.OK},
		{vec(boxed(none(char(' '), 0)), num(1)), '+', one(num(1)), vec(boxed(none(num(0), 0)), num(2)), api.OK},
		{vec(boxed(text("ab")), char('a')), '=', one(char('a')), vec(boxed(nums(1, 0)), num(1)), api.OK},
		{deep(api.MaxDepth), '∧', deep(api.MaxDepth), deep(api.MaxDepth), api.OK},
	}
	for k, c := range cases {
		got, e := scalar.Dyadic(plain(), c.glyph, c.a, c.b)
		expect(t, k, got, e, c.want, c.e)
	}
	got, e := scalar.Dyadic(plain(), '∧', deep(api.MaxDepth), nums(1, 1, 1))
	if e != api.OK || array.Depth(got) != api.MaxDepth || !slices.Equal(got.Shape, []int{3}) {
		t.Error("just so deep", got, e)
	}
	l := sequence(api.MaxItems)
	got, e = scalar.Dyadic(plain(), '-', nums(l...), nums(l...))
	expect(t, "just so many", got, e, nums(make([]int, api.MaxItems)...), api.OK)
}

func TestTheFirstErrorTells(t *testing.T) { // P5.2
	cases := []struct {
		a     api.Array
		glyph rune
		b     api.Array
		e     api.Errno
	}{
		{nums(1, 2), '÷', vec(num(0), boxed(nums(1, 2))), api.Domain},
		{vec(boxed(nums(1, 2)), char('a')), '+', vec(boxed(nums(1, 2, 3)), num(1)), api.Length},
		{vec(char('a'), boxed(nums(1, 2))), '+', vec(num(1), boxed(nums(1, 2, 3))), api.Domain},
		{vec(boxed(nums(1, 2)), boxed(nums(1, 2))), '+', vec(boxed(arr([]int{1, 2}, num(1), num(2))), boxed(nums(1, 2, 3))), api.Rank},
		{vec(boxed(nums(1, 2)), boxed(nums(1, 2))), '+', vec(boxed(nums(1, 2, 3)), boxed(arr([]int{1, 2}, num(1), num(2)))), api.Length},
		{vec(boxed(nums(1, 2)), char('a')), '+', vec(boxed(nums(1, 2)), num(1)), api.Domain},
		{nums(2, 1), '*', vec(num(1025), char('a')), api.Limit},
		{nums(1, 2), '*', vec(char('a'), num(1025)), api.Domain},
		{vec(boxed(nums(1, 2)), num(0)), '*', vec(num(1025), num(-1)), api.Limit},
		{vec(boxed(nums(0, 2)), num(0)), '*', vec(num(-1), num(1025)), api.Domain},
		{vec(boxed(vec(num(1), boxed(nums(1, 2)))), char('a')), '+', vec(boxed(vec(num(1), boxed(nums(1, 2, 3)))), num(1)), api.Length},
	}
	for k, c := range cases {
		got, e := scalar.Dyadic(plain(), c.glyph, c.a, c.b)
		expect(t, k, got, e, api.Array{}, c.e)
	}
}

func TestDyadicErrors(t *testing.T) { // P5.2, P1, P2
	right := nums(1, 0)
	for _, a := range append(wrongArrays(), right, text("abc")) {
		for _, glyph := range append(noGlyphs(), '~') {
			got, e := scalar.Dyadic(plain(), glyph, a, right)
			expect(t, glyph, got, e, api.Array{}, api.ErrNone)
			got, e = scalar.Dyadic(api.Env{}, glyph, right, a)
			expect(t, glyph, got, e, api.Array{}, api.ErrNone)
		}
	}
	for _, glyph := range dyadic {
		for _, a := range wrongArrays() {
			got, e := scalar.Dyadic(plain(), glyph, a, right)
			expect(t, string(glyph), got, e, api.Array{}, api.ErrForm)
			got, e = scalar.Dyadic(plain(), glyph, right, a)
			expect(t, string(glyph), got, e, api.Array{}, api.ErrForm)
		}
		for _, ct := range wrongNumbers() {
			got, e := scalar.Dyadic(env(ct), glyph, right, right)
			expect(t, string(glyph), got, e, api.Array{}, api.ErrForm)
			got, e = scalar.Dyadic(env(ct), glyph, right, text("abc"))
			expect(t, string(glyph), got, e, api.Array{}, api.ErrForm)
		}
	}
}

func TestDyadicByTolerance(t *testing.T) { // P5.2
	a, b := vec(num(100), boxed(nums(100, 7))), one(num(101))
	for _, c := range []struct {
		ct   api.Rat
		want int
	}{{rat.OfInt(0), 0}, {frac(1, 101), 1}, {frac(1, 102), 0}, {frac(-1, 2), 0}} {
		got, e := scalar.Dyadic(env(c.ct), '=', a, b)
		expect(t, c.ct, got, e, vec(num(c.want), boxed(nums(c.want, 0))), api.OK)
		got, e = scalar.Dyadic(env(c.ct), '<', a, b)
		expect(t, c.ct, got, e, vec(num(1-c.want), boxed(nums(1-c.want, 1))), api.OK)
	}
}

func TestDyadicHasItsOwnLists(t *testing.T) { // P3
	for _, glyph := range "+⌈⌊=×" {
		for _, a := range samples() {
			for _, b := range []api.Array{one(num(1)), nums(1, 0), nums(1, 0, 2), one(boxed(nums(1, 1))), a} {
				p, q := roomy(a), roomy(b)
				before := snapshot(p) + snapshot(q)
				got, _ := scalar.Dyadic(plain(), glyph, p, q)
				if snapshot(p)+snapshot(q) != before {
					t.Error(string(glyph), "changed", a, b)
				}
				apart(t, string(glyph), got, p, q)
				got, _ = scalar.Dyadic(plain(), glyph, q, p)
				apart(t, string(glyph), got, p, q)
			}
		}
	}
}

// TestDyadicLimit goes on a box of many with each of many.
func TestDyadicLimit(t *testing.T) { // P5.2, P5
	for _, c := range []struct {
		box, long int
		e         api.Errno
	}{{127, 128, api.OK}, {128, 127, api.OK}, {128, 128, api.Limit}, {4095, 4, api.OK}, {4096, 4, api.Limit}, {3, 4096, api.OK}, {4, 4096, api.Limit}, {4096, 4096, api.Limit}} {
		a, b := one(boxed(nums(sequence(c.box)...))), nums(sequence(c.long)...)
		got, e := scalar.Dyadic(plain(), '+', a, b)
		if e != c.e || e == api.OK && (!array.Right(got) || array.Cells(got) != c.long*(c.box+1)) {
			t.Error(c, e)
		}
		got, e = scalar.Dyadic(plain(), '+', b, a)
		if e != c.e || e != api.OK && (got.Items != nil || got.Shape != nil) {
			t.Error(c, e)
		}
	}
	// An empty array in a box has a cell of its own.
	for _, c := range []struct {
		long int
		e    api.Errno
	}{{3276, api.OK}, {3277, api.Limit}} {
		got, e := scalar.Dyadic(plain(), '+', vec(boxed(vec(boxed(none(num(0), 0)), boxed(none(num(0), 0))))), nums(sequence(c.long)...))
		if e != c.e || e == api.OK && array.Cells(got) != 5*c.long {
			t.Error(c, e)
		}
	}
}

// TestOthersGoAheadOfLimit has more cells than may be, and behind those another error.
func TestOthersGoAheadOfLimit(t *testing.T) { // P5.2
	box := one(boxed(nums(slices.Repeat([]int{1}, 200)...)))
	row := func(last api.Item) api.Array { return vec(append(numItems(slices.Repeat([]int{1}, 99)...), last)...) }
	cases := []struct {
		glyph rune
		last  api.Item
		e     api.Errno
	}{
		{'+', num(1), api.Limit}, {'+', char('a'), api.Domain}, {'=', char('a'), api.Limit}, {'≠', char('a'), api.Limit}, {'<', char('a'), api.Domain},
		{'+', boxed(nums(1, 2)), api.Length}, {'+', boxed(arr([]int{1, 2}, num(1), num(2))), api.Rank}, {'+', boxed(vec(boxed(nums(1)))), api.Limit}, {'+', boxed(vec(boxed(text("a")))), api.Domain},
		{'=', boxed(none(num(0), 0)), api.Length}, {'÷', num(0), api.Domain}, {'÷', num(2), api.Limit}, {'*', number(frac(1, 2)), api.Domain}, {'*', num(-1), api.Limit},
		{'!', num(-1), api.Domain}, {'!', number(frac(1, 2)), api.Domain}, {'!', num(5), api.Limit}, {'∧', num(2), api.Domain}, {'∨', num(-1), api.Domain}, {'⍲', number(frac(1, 2)), api.Domain},
		{'⍱', num(2), api.Domain}, {'∧', num(0), api.Limit}, {'⌈', num(-5), api.Limit}, {'|', num(0), api.Limit}, {'-', num(0), api.Limit}, {'×', number(frac(1, 2)), api.Limit},
	}
	for _, c := range cases {
		got, e := scalar.Dyadic(plain(), c.glyph, box, row(c.last))
		expect(t, string(c.glyph), got, e, api.Array{}, c.e)
	}
	zeros := one(boxed(nums(make([]int, 200)...)))
	for _, c := range []struct {
		glyph rune
		last  api.Item
		e     api.Errno
	}{{'÷', num(0), api.Limit}, {'*', num(-1), api.Domain}, {'*', num(0), api.Limit}, {'!', num(3), api.Limit}} {
		got, e := scalar.Dyadic(plain(), c.glyph, zeros, row(c.last))
		expect(t, string(c.glyph)+" of 0", got, e, api.Array{}, c.e)
	}
	for _, c := range []struct {
		glyph rune
		last  api.Item
		e     api.Errno
	}{{'÷', num(0), api.Limit}, {'*', number(frac(1, 2)), api.Limit}, {'!', num(-1), api.Domain}, {'∧', num(2), api.Domain}, {'-', char('a'), api.Domain}, {'+', boxed(nums(1, 2)), api.Length}} {
		got, e := scalar.Dyadic(plain(), c.glyph, row(c.last), box)
		expect(t, string(c.glyph)+" turned about", got, e, api.Array{}, c.e)
	}
}

// many is a box of a vector of just one item, which is a box of n zeros: with a box of m zeros m boxes come of it, m × (n+1) cells.
func many(n int) api.Item {
	return boxed(vec(zeros(n)))
}

func zeros(n int) api.Item {
	return boxed(nums(make([]int, n)...))
}

// full is a whole number of as many limbs as may be, each 1.
func full() api.Item {
	return number(api.Rat{Num: slices.Repeat([]uint32{1}, api.MaxLimbs), Den: []uint32{1}})
}

// TestTheFirstErrorOfWhatIsTooGreat has items that are too great for themselves, or all together, and other errors ahead of them, in them, and behind.
func TestTheFirstErrorOfWhatIsTooGreat(t *testing.T) { // P5.2
	bad := boxed(vec(boxed(vec(append(numItems(make([]int, 199)...), char('a'))...))))
	wider := boxed(arr([]int{1, 2}, numItems(0, 0)...))
	cases := []struct {
		what string
		a, b []api.Item
		e    api.Errno
	}{
		{"too great, then Domain", []api.Item{many(200), char('a')}, []api.Item{zeros(200), num(0)}, api.Limit},
		{"Domain, then too great", []api.Item{char('a'), many(200)}, []api.Item{num(0), zeros(200)}, api.Domain},
		{"too great, then Length", []api.Item{many(200), zeros(2)}, []api.Item{zeros(200), zeros(3)}, api.Limit},
		{"too great, then Rank", []api.Item{many(200), zeros(2)}, []api.Item{zeros(200), wider}, api.Limit},
		{"Rank, then too great", []api.Item{zeros(2), many(200)}, []api.Item{wider, zeros(200)}, api.Rank},
		{"Domain in what is too great", []api.Item{bad, num(0)}, []api.Item{zeros(200), num(0)}, api.Domain},
		{"too great, then Domain in what is too great", []api.Item{many(200), bad}, []api.Item{zeros(200), zeros(200)}, api.Limit},
		{"just not too great, then Domain", []api.Item{many(127), char('a')}, []api.Item{zeros(128), num(0)}, api.Domain},
		{"just too great, then Domain", []api.Item{many(128), char('a')}, []api.Item{zeros(128), num(0)}, api.Limit},
		{"too great together, then Domain", []api.Item{many(127), many(127), char('a')}, []api.Item{zeros(128), zeros(128), num(0)}, api.Domain},
		{"too great together, then too great, then Domain", []api.Item{many(127), many(127), many(128), char('a')}, []api.Item{zeros(128), zeros(128), zeros(128), num(0)}, api.Limit},
		{"too great together, then a Limit, then Domain", []api.Item{many(127), many(127), full(), char('a')}, []api.Item{zeros(128), zeros(128), full(), num(0)}, api.Limit},
		{"too great together, then Domain, then a Limit", []api.Item{many(127), many(127), char('a'), full()}, []api.Item{zeros(128), zeros(128), num(0), full()}, api.Domain},
		{"a Limit, then too great together, then Domain", []api.Item{full(), many(127), many(127), char('a')}, []api.Item{full(), zeros(128), zeros(128), num(0)}, api.Limit},
		{"too great together", []api.Item{many(127), many(127)}, []api.Item{zeros(128), zeros(128)}, api.Limit},
		{"further in, too great, then Domain", []api.Item{boxed(vec(many(200), num(1))), char('a')}, []api.Item{boxed(vec(zeros(200), num(1))), num(0)}, api.Limit},
		{"further in, too great together, then Domain", []api.Item{boxed(vec(many(127), many(127))), char('a')}, []api.Item{boxed(vec(zeros(128), zeros(128))), num(0)}, api.Limit},
		{"further in, too great together, then Domain there", []api.Item{boxed(vec(many(127), many(127), char('a')))}, []api.Item{boxed(vec(zeros(128), zeros(128), num(0)))}, api.Domain},
	}
	for _, c := range cases {
		a, b := vec(c.a...), vec(c.b...)
		got, e := scalar.Dyadic(plain(), '×', a, b)
		expect(t, c.what, got, e, api.Array{}, c.e)
		got, e = scalar.Dyadic(plain(), '×', b, a)
		expect(t, c.what+", turned about", got, e, api.Array{}, c.e)
		if _, e := wantDyadic(plain(), '×', a, b); e != c.e {
			t.Error(c.what, "is", e, "as the document says")
		}
		got, e = scalar.DyadicAt(plain(), '×', []int{2}, arr([]int{1, len(c.a)}, c.a...), b)
		expect(t, c.what+", along an axis", got, e, api.Array{}, c.e)
	}
}

// TestNumbersBehindWhatIsTooGreat has more cells than may be, then two numbers, then a character: the numbers' own error tells, if they have one.
func TestNumbersBehindWhatIsTooGreat(t *testing.T) { // P5.2
	all := numbers()
	edges := append(all[len(all)-3:], rat.OfInt(0), rat.OfInt(-1), rat.OfInt(2), rat.OfInt(1025), frac(1, 3))
	after := func(glyph rune, x, y []api.Item) api.Errno {
		a := append(append([]api.Item{many(127), many(127)}, x...), char('a'))
		b := append(append([]api.Item{zeros(128), zeros(128)}, y...), num(0))
		got, e := scalar.Dyadic(plain(), glyph, vec(a...), vec(b...))
		expect(t, string(glyph), got, e, api.Array{}, e)
		return e
	}
	for _, glyph := range "+-×÷⌈|*!<∧" {
		var x, y []api.Item
		for _, p := range edges {
			for _, q := range edges {
				switch _, e := scalar.Two(plain(), glyph, p, q); e {
				case api.OK:
					x, y = append(x, number(p)), append(y, number(q))
				case api.Limit:
					if got := after(glyph, []api.Item{number(p)}, []api.Item{number(q)}); got != e {
						t.Error(rat.Print(p), string(glyph), rat.Print(q), "is", got)
					}
				}
			}
		}
		if got := after(glyph, x, y); got != api.Domain {
			t.Error("all that are no errors,", string(glyph), "is", got)
		}
	}
}

func TestErrorsOfManySizes(t *testing.T) { // P5.2
	d := dice(362436069)
	sizes := []int{1, 2, 60, 130, 200}
	for round := range 60 {
		var a, b []api.Item
		for range 2 + d.next(4) {
			switch d.next(8) {
			case 0:
				a, b = append(a, char('a')), append(b, num(0))
			case 1:
				a, b = append(a, full()), append(b, full())
			case 2:
				a, b = append(a, zeros(2)), append(b, zeros(3))
			case 3:
				a, b = append(a, num(2)), append(b, zeros(d.next(3)+1))
			default:
				a, b = append(a, many(sizes[d.next(5)])), append(b, zeros(sizes[d.next(5)]))
			}
		}
		got, e := scalar.Dyadic(plain(), '×', vec(a...), vec(b...))
		want, wantE := wantDyadic(plain(), '×', vec(a...), vec(b...))
		expect(t, round, got, e, want, wantE)
	}
}

func TestLessItself(t *testing.T) { // P5.5
	for _, a := range samples() {
		opposite, e := scalar.Monadic(plain(), '-', a)
		if e != api.OK {
			continue // it has characters
		}
		got, e := scalar.Dyadic(plain(), '+', a, opposite)
		want, _ := scalar.Dyadic(plain(), '×', a, one(num(0)))
		expect(t, "a + - a", got, e, want, api.OK)
		if e == api.OK && !array.Match(got, array.Type(got)) {
			t.Error("is not 0 everywhere", got)
		}
	}
}

func TestIdentityOfArrays(t *testing.T) { // P5.7
	for _, a := range samples() {
		if same, e := scalar.Monadic(plain(), '+', a); e != api.OK || !array.Match(same, a) {
			continue // characters, or prototypes that are no numbers
		}
		for _, glyph := range "+-×÷" {
			y, _ := scalar.Identity(glyph)
			got, e := scalar.Dyadic(plain(), glyph, a, one(number(y)))
			expect(t, string(glyph), got, e, a, api.OK)
		}
		for _, glyph := range "+×" {
			y, _ := scalar.Identity(glyph)
			got, e := scalar.Dyadic(plain(), glyph, one(number(y)), a)
			expect(t, string(glyph), got, e, a, api.OK)
		}
	}
}
