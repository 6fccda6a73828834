package array_test

import (
	"math"
	"slices"
	"strings"
	"testing"

	"glyph/api"
	"glyph/array"
	"glyph/rat"
)

func expect(t *testing.T, what any, got, want api.Array) {
	t.Helper()
	if !alike(got, want) || !array.Right(got) {
		t.Error(what, "is", got, "want", want)
	}
}

func TestInt(t *testing.T) { // P3.1
	for _, n := range []int{0, 1, -1, 42, math.MaxUint32, 1 << 32, math.MaxInt, math.MinInt} {
		expect(t, n, array.Int(n), arr(nil, num(n)))
	}
}

func TestRat(t *testing.T) { // P3.1, P3
	full := slices.Repeat([]uint32{math.MaxUint32}, api.MaxLimbs)
	for _, r := range []api.Rat{rat.OfInt(0), rat.OfInt(-7), {Num: []uint32{1}, Den: []uint32{3}}, {Below: true, Num: full, Den: []uint32{2}}, {Num: []uint32{0, 1}, Den: full}} {
		got := array.Rat(r)
		expect(t, r, got, arr(nil, api.Item{Kind: api.Number, Num: r}))
		apart(t, "Rat", []any{api.Item{Num: r}}, got)
	}
	wrong := []api.Rat{
		{}, {Below: true, Den: []uint32{1}}, {Num: []uint32{1}}, {Num: []uint32{2}, Den: []uint32{4}}, {Num: []uint32{1, 0}, Den: []uint32{1}},
		{Num: append(slices.Clone(full), 1), Den: []uint32{1}}, {Num: []uint32{1}, Den: []uint32{0}},
	}
	for _, r := range wrong {
		expect(t, r, array.Rat(r), arr(nil, num(0)))
	}
}

func TestChar(t *testing.T) { // P3.1
	for _, c := range []rune{0, ' ', 'a', 127, 'é', '⍵', 0xD7FF, 0xE000, 0xFFFD, 0xFFFF, 0x10FFFF} {
		expect(t, c, array.Char(c), arr(nil, char(c)))
	}
	for _, c := range []rune{-1, math.MinInt32, 0xD800, 0xDBFF, 0xDC00, 0xDFFF, 0x110000, math.MaxInt32} {
		expect(t, c, array.Char(c), arr(nil, num(0)))
	}
}

func TestText(t *testing.T) { // P3.1
	const none = 65533
	cases := []struct {
		s    string
		want api.Array
	}{
		{"", emptyText()}, {"a", text('a')}, {"aé⍵", text('a', 'é', '⍵')}, {"a'b\n\x00", text('a', '\'', 'b', '\n', 0)},
		{"\uFFFD", text(none)}, {"\U0010FFFF", text(0x10FFFF)}, {"\xff", text(none)}, {"a\x80b", text('a', none, 'b')},
		{"\xe2\x8d", text(none, none)}, {"\xe2\x8dA", text(none, none, 'A')}, {"\xc0\x80", text(none, none)}, {"\xe0\x80\x80", text(none, none, none)},
		{"\xed\xa0\x80", text(none, none, none)}, {"\xf4\x90\x80\x80", text(none, none, none, none)}, {"\xf0\x9f\x98", text(none, none, none)},
	}
	for _, c := range cases {
		expect(t, c.s, array.Text(c.s), c.want)
	}
}

func TestTextIsCut(t *testing.T) { // P3.1
	for _, one := range []string{"a", "⍵", "\xff"} {
		for _, n := range []int{api.MaxItems - 1, api.MaxItems, api.MaxItems + 1, 3 * api.MaxItems} {
			got := array.Text(strings.Repeat(one, n-1) + "z")
			size := min(n, api.MaxItems)
			if !array.Right(got) || !slices.Equal(got.Shape, []int{size}) || got.Items[0].Char == 'z' {
				t.Fatal(one, n, got.Shape)
			}
			if last := got.Items[size-1].Char; (last == 'z') != (n <= api.MaxItems) {
				t.Error(one, n, last)
			}
		}
	}
}

func TestInts(t *testing.T) { // P3.1
	expect(t, "none", array.Ints(), arr([]int{0}, num(0)))
	expect(t, "nil", array.Ints([]int(nil)...), arr([]int{0}, num(0)))
	expect(t, "one", array.Ints(-3), nums(-3))
	expect(t, "several", array.Ints(1, 0, math.MaxInt, math.MinInt), nums(1, 0, math.MaxInt, math.MinInt))
	for _, n := range []int{api.MaxItems - 1, api.MaxItems, api.MaxItems + 1, 2*api.MaxItems + 7} {
		l := make([]int, n)
		for i := range l {
			l[i] = i
		}
		expect(t, n, array.Ints(l...), vec(sequence(min(n, api.MaxItems))...))
	}
}

func TestAnswersHaveListsOfTheirOwn(t *testing.T) { // P3
	for _, got := range []api.Array{array.Int(5), array.Text("abc"), array.Text(""), array.Ints(1, 1, 1), array.Ints(), array.Char('a'), array.Char(-1)} {
		apart(t, "made", nil, got)
	}
	l := []int{1, 2, 3}
	apart(t, "Ints", []any{l}, array.Ints(l...))
	apart(t, "two calls", []any{array.Ints()}, array.Ints())
	apart(t, "two calls", []any{array.Text("")}, array.Text(""))
	apart(t, "two calls", []any{array.Int(0)}, array.Int(0))
}

func TestMake(t *testing.T) { // P3.2
	abc := []api.Item{char('a'), num(1), boxed(nums(2, 3))}
	cases := []struct {
		shape []int
		items []api.Item
		want  api.Array
	}{
		{[]int{2, 2}, nums(1, 2, 3).Items, arr([]int{2, 2}, num(1), num(2), num(3), num(1))},
		{[]int{0}, []api.Item{char('a')}, emptyText()},
		{nil, []api.Item{num(5)}, arr(nil, num(5))},
		{[]int{}, []api.Item{char('x'), num(5)}, arr(nil, char('x'))},
		{nil, abc[2:], arr(nil, boxed(nums(2, 3)))},
		{[]int{1}, abc, vec(char('a'))},
		{[]int{3}, abc, vec(abc...)},
		{[]int{7}, abc, vec(abc[0], abc[1], abc[2], abc[0], abc[1], abc[2], abc[0])},
		{[]int{2, 0, 3}, abc[1:], arr([]int{2, 0, 3}, num(0))},
		{[]int{0}, abc[2:], arr([]int{0}, boxed(nums(0, 0)))},
		{[]int{0}, []api.Item{boxed(vec(char('q'), boxed(nums(4))))}, arr([]int{0}, boxed(vec(char(' '), boxed(nums(0)))))},
		{[]int{0}, []api.Item{boxed(arr([]int{0, 2}, char('q')))}, arr([]int{0}, boxed(arr([]int{0, 2}, char(' '))))},
		{[]int{0, 4096, 4096}, abc, arr([]int{0, 4096, 4096}, char(' '))},
		{[]int{1, 1, 1, 1, 1, 1, 1, 1}, abc, arr([]int{1, 1, 1, 1, 1, 1, 1, 1}, char('a'))},
		{[]int{api.MaxItems}, sequence(5000), vec(sequence(api.MaxItems)...)},
	}
	for _, c := range cases {
		got, e := array.Make(c.shape, c.items...)
		if e != api.OK {
			t.Error(c.shape, e)
		}
		expect(t, c.shape, got, c.want)
		apart(t, "Make", []any{c.shape, c.items}, got)
	}
}

func TestMakeDropsWhatIsNotNamed(t *testing.T) { // P2, P3.2
	empty := []api.Array{}
	number := api.Item{Kind: api.Number, Num: rat.OfInt(3), Box: empty}
	character := api.Item{Kind: api.Char, Char: 'a', Num: api.Rat{Num: []uint32{}, Den: []uint32{}}, Box: empty}
	got, e := array.Make([]int{2}, number, character)
	if e != api.OK || got.Items[0].Box != nil || got.Items[1].Num.Num != nil || got.Items[1].Num.Den != nil || got.Items[1].Box != nil {
		t.Error(got, e)
	}
	expect(t, "empty lists", got, vec(num(3), char('a')))
}

func makeFails(t *testing.T, what any, want api.Errno, shape []int, items ...api.Item) {
	t.Helper()
	if got, e := array.Make(shape, items...); e != want || !isZero(got) {
		t.Error(what, "error", e, "want", want, "with", got)
	}
}

func TestMakeOfWrongItems(t *testing.T) { // P3.2, P1
	makeFails(t, "none", api.ErrForm, nil)
	makeFails(t, "none", api.ErrForm, []int{0})
	makeFails(t, "nil", api.ErrForm, []int{2}, []api.Item(nil)...)
	for k, i := range wrongItems() {
		for _, shape := range [][]int{nil, {0}, {1}, {3}} {
			makeFails(t, k, api.ErrForm, shape, i)
			makeFails(t, k, api.ErrForm, shape, i, num(1))
			makeFails(t, k, api.ErrForm, shape, num(1), num(2), num(3), i)
			makeFails(t, k, api.ErrForm, shape, boxed(deep(api.MaxDepth)), i)
		}
	}
	for _, a := range []api.Array{looped(), woven()} {
		makeFails(t, "no end", api.ErrForm, []int{2}, boxed(a))
	}
}

func TestMakeOfWrongShapes(t *testing.T) { // P3.2, P2
	for _, items := range [][]api.Item{nil, {num(1)}, {{}}, {boxed(deep(api.MaxDepth))}} {
		makeFails(t, "rank", api.Rank, []int{1, 1, 1, 1, 1, 1, 1, 1, 1}, items...)
		makeFails(t, "below", api.Domain, []int{-1}, items...)
		makeFails(t, "length", api.Limit, []int{api.MaxItems + 1}, items...)
		makeFails(t, "length", api.Limit, []int{0, api.MaxItems + 1}, items...)
		makeFails(t, "product", api.Limit, []int{2, 2049}, items...)
	}
}

func TestMakeLimits(t *testing.T) { // P3.2, P5
	most := boxed(deep(api.MaxDepth))
	less := boxed(deep(api.MaxDepth - 1))
	for _, shape := range [][]int{nil, {1}, {0}, {2, 2}} {
		makeFails(t, "depth", api.Limit, shape, most)
		if got, e := array.Make(shape, less); e != api.OK || !array.Right(got) || array.Depth(got) != api.MaxDepth {
			t.Error("depth", shape, got, e)
		}
	}
	makeFails(t, "depth", api.Limit, []int{2}, num(1), most)
	if got, e := array.Make([]int{1}, num(1), most); e != api.OK || !alike(got, nums(1)) {
		t.Error("what is not taken is not counted", got, e)
	}
	if got, e := array.Make([]int{0}, num(1), most); e != api.OK || !alike(got, arr([]int{0}, num(0))) {
		t.Error("what is not taken is not counted", got, e)
	}
}

func TestMakeLimitsOfCells(t *testing.T) { // P3.2, P5
	most, less := boxed(great(api.MaxCells)), boxed(great(api.MaxCells-1))
	quarter := boxed(vec(sequence(api.MaxCells/4 - 1)...))
	for _, shape := range [][]int{nil, {1}, {0}} {
		makeFails(t, "cells", api.Limit, shape, most)
		if got, e := array.Make(shape, less); e != api.OK || array.Cells(got) != api.MaxCells {
			t.Error("cells", shape, e)
		}
	}
	if got, e := array.Make([]int{2, 2}, quarter); e != api.OK || array.Cells(got) != api.MaxCells {
		t.Error("four quarters", e)
	}
	makeFails(t, "one more", api.Limit, []int{5}, quarter, quarter, quarter, quarter, num(1))
	makeFails(t, "five quarters", api.Limit, []int{5}, quarter)
	makeFails(t, "a great many", api.Limit, []int{api.MaxItems}, less)
	if got, e := array.Make([]int{1}, num(1), most, most); e != api.OK || !alike(got, nums(1)) {
		t.Error("what is not taken is not counted", got, e)
	}
}

func TestMakeAgain(t *testing.T) { // P3.6
	for _, a := range samples() {
		got, e := array.Make(a.Shape, a.Items...)
		if e != api.OK {
			t.Error(a.Shape, e)
		}
		expect(t, a.Shape, got, a)
	}
	got, e := array.Make([]int{0}, num(5))
	if e != api.OK || alike(got, arr([]int{0}, num(5))) || !alike(got, arr([]int{0}, num(0))) {
		t.Error("the one item of an empty one is a type", got, e)
	}
}

func TestMakeKeepsWhatItIsHanded(t *testing.T) { // P3
	for _, a := range fewSamples() {
		full, whole := roomy(a)
		before := snapshot(full, whole)
		if _, e := array.Make(full.Shape, full.Items...); e != api.OK {
			t.Error(e)
		}
		if snapshot(full, whole) != before {
			t.Error("changed", a)
		}
	}
}
