package pick_test

import (
	"math"
	"strings"
	"testing"

	"glyph/api"
	"glyph/array"
	"glyph/lex"
	"glyph/pick"
)

func noGlyphs() []rune {
	return []rune{-1, math.MinInt32, math.MaxInt32, 0, 0xD800, 0xFFFD, 0x10FFFF, 0x110000, ' ', 'a', '0', '+', '=', '⍴', ',', '⌽', '⍕', '⍎', 'ϵ', '∈', '⍸', '∩'}
}

func TestGlyphs(t *testing.T) { // P7.1
	check := func(c rune) {
		if got := pick.IsMonadic(c); got != (c > 0 && strings.Contains(monadic, string(c))) {
			t.Error("of one", string(c), got)
		}
		if got := pick.IsDyadic(c); got != (c > 0 && strings.Contains(dyadic, string(c))) {
			t.Error("of two", string(c), got)
		}
	}
	for c := rune(0); c < 256; c++ {
		check(c)
	}
	for c := rune(0x2190); c < 0x2400; c++ {
		check(c)
	}
	for _, c := range lex.Primitives() {
		check(c)
	}
	for _, c := range noGlyphs() {
		if pick.IsMonadic(c) || pick.IsDyadic(c) {
			t.Error(c)
		}
	}
}

func TestErrors(t *testing.T) { // P7.1, P1, P2
	right := nums(1)
	for _, a := range append(wrongArrays(), right) {
		for _, glyph := range noGlyphs() {
			got, e := pick.Monadic(env(5), glyph, a)
			expect(t, glyph, got, e, api.Array{}, api.ErrNone)
			got, e = pick.Dyadic(env(5), glyph, right, a)
			expect(t, glyph, got, e, api.Array{}, api.ErrNone)
			got, e = pick.Dyadic(env(5), glyph, a, right)
			expect(t, glyph, got, e, api.Array{}, api.ErrNone)
		}
		for _, glyph := range "~⊤⊥⌷" {
			got, e := pick.Monadic(env(5), glyph, a)
			expect(t, glyph, got, e, api.Array{}, api.ErrNone)
		}
		for _, glyph := range "⊂↑⍋⍒" {
			got, e := pick.Dyadic(env(5), glyph, a, right)
			expect(t, glyph, got, e, api.Array{}, api.ErrNone)
		}
	}
	for _, glyph := range monadic {
		for _, a := range wrongArrays() {
			got, e := pick.Monadic(env(1), glyph, a)
			expect(t, string(glyph), got, e, api.Array{}, api.ErrForm)
		}
		for _, io := range wrongOrigins() {
			got, e := pick.Monadic(env(io), glyph, right)
			expect(t, string(glyph), got, e, api.Array{}, api.ErrForm)
		}
	}
	for _, glyph := range dyadic {
		for _, a := range wrongArrays() {
			got, e := pick.Dyadic(env(1), glyph, a, right)
			expect(t, string(glyph), got, e, api.Array{}, api.ErrForm)
			got, e = pick.Dyadic(env(1), glyph, right, a)
			expect(t, string(glyph), got, e, api.Array{}, api.ErrForm)
			got, e = pick.Dyadic(env(1), glyph, arr([]int{1, 1}, char('a')), a) // ahead of Rank and Domain
			expect(t, string(glyph), got, e, api.Array{}, api.ErrForm)
		}
		for _, io := range wrongOrigins() {
			got, e := pick.Dyadic(env(io), glyph, right, right)
			expect(t, string(glyph), got, e, api.Array{}, api.ErrForm)
		}
	}
}

// TestTolerancePlaysNoPart: the same is the same exactly, whatever the tolerance is, right or not.
func TestTolerancePlaysNoPart(t *testing.T) { // P7.1, P7.3
	near := vec(num(1000), number(frac(1001, 1)))
	for _, e := range []api.Env{{IO: 1}, {IO: 1, CT: frac(1, 2)}, {IO: 1, CT: api.Rat{Num: []uint32{1}}, PP: -1}} {
		got, x := pick.Dyadic(e, '⍳', near, one(num(1001)))
		expect(t, e, got, x, one(num(2)), api.OK)
		got, x = pick.Monadic(e, '∪', near)
		expect(t, e, got, x, near, api.OK)
		got, x = pick.Dyadic(e, '≡', nums(1000), nums(1001))
		expect(t, e, got, x, one(num(0)), api.OK)
	}
}

// rising are items in their order, each less than the next one.
func rising() []api.Item {
	return []api.Item{
		great(true), num(math.MinInt), num(-1), number(frac(-1, 2)), num(0), number(frac(1, 3)), number(frac(1, 2)), num(1), num(math.MaxInt), great(false),
		char(0), char(' '), char('A'), char('a'), char('⍋'), char(0x10FFFF),
		boxed(one(boxed(nums(0)))), boxed(one(boxed(nums(5)))), boxed(one(boxed(text("a")))), boxed(one(boxed(nums(0, 0)))),
		boxed(none(num(0), 0)), boxed(none(char(' '), 0)), boxed(none(boxed(nums(0)), 0)),
		boxed(nums(-5)), boxed(nums(7)), boxed(text("a")), boxed(vec(boxed(nums(1)))),
		boxed(nums(0, 9)), boxed(nums(1, 0)), boxed(nums(1, 2)), boxed(vec(num(1), char('a'))), boxed(vec(num(1), boxed(nums(1)))), boxed(text("ab")), boxed(text("b ")),
		boxed(nums(0, 0, 0)), boxed(none(num(0), 0, 9)), boxed(none(num(0), 1, 0)), boxed(counted(1, 1)), boxed(counted(1, 2)), boxed(counted(2, 1)), boxed(counted(1, 1, 1)),
	}
}

func TestOrder(t *testing.T) { // P7.3, P3
	l := rising()
	for i, x := range l {
		for j, y := range l {
			want := 0
			if i < j {
				want = -1
			} else if i > j {
				want = 1
			}
			a, b := roomy(one(x)), roomy(one(y))
			before := snapshot(a) + snapshot(b)
			if got := pick.Order(a.Items[0], b.Items[0]); got != want {
				t.Error(i, j, x, y, got)
			}
			if snapshot(a)+snapshot(b) != before {
				t.Error(i, j, "changed")
			}
		}
	}
	deepest := boxed(deep(api.MaxDepth)) // an item that is right, though no array can have it
	if pick.Order(deepest, num(1)) != 1 || pick.Order(deepest, deepest) != 0 {
		t.Error("deepest")
	}
}

// TestOrderIsOne holds it against Match, and against itself the other way round.
func TestOrderIsOne(t *testing.T) { // P7.3
	var l []api.Item
	for _, a := range samples() {
		l = append(l, a.Items...)
	}
	for _, x := range l {
		for _, y := range l {
			got := pick.Order(x, y)
			if got != -pick.Order(y, x) || (got == 0) != array.Match(array.Open(x), array.Open(y)) {
				t.Error(x, y, got)
			}
		}
	}
}

func TestOrderOfWrong(t *testing.T) { // P7.3, P1
	wrong := []api.Item{{}, {Kind: 9}, {Kind: api.Number}, {Kind: api.Box}, char(0xD800), char(-1), boxed(one(num(1))), boxed(deep(api.MaxDepth + 1)), {Kind: api.Char, Char: 'a', Box: []api.Array{nums(1)}}}
	for _, x := range wrongNumbers() {
		wrong = append(wrong, number(x))
	}
	for _, a := range wrongArrays() {
		wrong = append(wrong, boxed(a))
	}
	for _, x := range wrong {
		for _, y := range append(rising(), wrong...) {
			if pick.Order(x, y) != 0 || pick.Order(y, x) != 0 {
				t.Error(x, y)
			}
		}
	}
}

// TestWhatIsToldIsRight goes through all functions of all samples.
func TestWhatIsToldIsRight(t *testing.T) { // P7.7, P1, P2, P3
	all := samples()
	for _, a := range all {
		for _, glyph := range monadic {
			in := roomy(a)
			before := snapshot(in)
			got, e := pick.Monadic(env(1), glyph, in)
			rightOrNone(t, string(glyph), got, e)
			if snapshot(in) != before {
				t.Error(string(glyph), "changed", a)
			}
			apart(t, string(glyph), got, in)
		}
		for _, b := range all {
			for _, glyph := range dyadic {
				x, y := roomy(a), roomy(b)
				before := snapshot(x) + snapshot(y)
				got, e := pick.Dyadic(env(0), glyph, x, y)
				rightOrNone(t, string(glyph), got, e)
				if snapshot(x)+snapshot(y) != before {
					t.Error(string(glyph), "changed", a, b)
				}
				apart(t, string(glyph), got, x, y)
			}
		}
	}
}

func rightOrNone(t *testing.T, what any, got api.Array, e api.Errno) {
	t.Helper()
	if e == api.OK && !array.Right(got) || e != api.OK && (got.Shape != nil || got.Items != nil) {
		t.Error(what, got, e)
	}
}
