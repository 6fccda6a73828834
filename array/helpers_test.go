package array_test

import (
	"fmt"
	"reflect"
	"testing"

	"glyph/api"
	"glyph/rat"
)

// dice is a row of numbers that is the same at every run.
type dice uint64

func (d *dice) next(n int) int {
	*d ^= *d << 13
	*d ^= *d >> 7
	*d ^= *d << 17
	return int(uint64(*d) >> 1 % uint64(n))
}

// Arrays of the tests are written out here, not made by the package.

func num(n int) api.Item {
	return api.Item{Kind: api.Number, Num: rat.OfInt(n)}
}

func frac(num, den uint32) api.Item {
	return api.Item{Kind: api.Number, Num: api.Rat{Num: []uint32{num}, Den: []uint32{den}}}
}

func char(c rune) api.Item {
	return api.Item{Kind: api.Char, Char: c}
}

func boxed(a api.Array) api.Item {
	return api.Item{Kind: api.Box, Box: []api.Array{a}}
}

func arr(shape []int, items ...api.Item) api.Array {
	return api.Array{Shape: shape, Items: items}
}

func vec(items ...api.Item) api.Array {
	return arr([]int{len(items)}, items...)
}

func nums(l ...int) api.Array {
	var items []api.Item
	for _, n := range l {
		items = append(items, num(n))
	}
	return vec(items...)
}

func text(l ...rune) api.Array {
	var items []api.Item
	for _, c := range l {
		items = append(items, char(c))
	}
	return vec(items...)
}

func emptyText() api.Array {
	return arr([]int{0}, char(' '))
}

func sequence(n int) []api.Item {
	var items []api.Item
	for i := range n {
		items = append(items, num(i))
	}
	return items
}

// deep is an array of so many levels, from 1 on: scalars, and a vector at last.
func deep(levels int) api.Array {
	a := nums(1, 2)
	for range levels - 1 {
		a = arr(nil, boxed(a))
	}
	return a
}

// great is an array of so many cells, from 4097 to 16384: a vector of boxes.
func great(cells int) api.Array {
	var boxes []api.Item
	for rest := cells - 5; rest > 0; rest -= api.MaxItems {
		boxes = append(boxes, boxed(vec(sequence(min(rest, api.MaxItems))...)))
	}
	for len(boxes) < 5 {
		boxes = append(boxes, num(7))
	}
	return vec(boxes...)
}

// empties are arrays without items, with several prototypes.
func empties() []api.Array {
	return []api.Array{
		arr([]int{0}, num(0)),
		arr([]int{0}, char(' ')),
		arr([]int{0, 3}, num(0)),
		arr([]int{3, 0}, num(0)),
		arr([]int{0, 4096, 4096}, char(' ')),
		arr([]int{0, 0, 0, 0, 0, 0, 0, 0}, num(0)),
		arr([]int{0}, boxed(nums(0, 0))),
		arr([]int{0}, boxed(arr([]int{0}, char(' ')))),
	}
}

// samples are right arrays: at the edges, and some others. Those without items have their own types.
func samples() []api.Array {
	out := []api.Array{
		arr(nil, num(0)), arr(nil, num(-5)), arr(nil, frac(1, 3)), arr(nil, char('a')), arr(nil, char(0)), arr(nil, char(0x10FFFF)), arr([]int{}, num(5)),
		nums(1), nums(1, 2, 3), text('a'), text('a', 'é', '⍵'), vec(num(1), char('b'), frac(2, 7)),
		arr([]int{1, 1, 1, 1, 1, 1, 1, 1}, num(3)), arr([]int{2, 2}, num(1), num(2), num(3), num(1)),
		vec(sequence(api.MaxItems)...), arr([]int{64, 64}, sequence(api.MaxItems)...),
		arr(nil, boxed(nums(1, 2))), arr(nil, boxed(emptyText())), vec(num(1), boxed(nums(1, 2))), vec(boxed(text('a', 'b')), boxed(vec(num(1), boxed(nums(7, 8))))),
		arr([]int{1, 1}, boxed(nums(4))), arr(nil, boxed(arr([]int{1}, char('x')))),
		deep(2), deep(api.MaxDepth - 1), deep(api.MaxDepth), great(5000), great(api.MaxCells - 1), great(api.MaxCells),
	}
	out = append(out, empties()...)
	d := dice(88172645463325252)
	for range 40 {
		out = append(out, randomArray(&d, 4))
	}
	return out
}

// fewSamples are those of few cells, for calls of two arrays.
func fewSamples() []api.Array {
	var out []api.Array
	for _, a := range samples() {
		if countCells(a) < 100 {
			out = append(out, a)
		}
	}
	return out
}

func randomArray(d *dice, levels int) api.Array {
	shape, size := []int(nil), 1
	for range d.next(3) {
		shape = append(shape, d.next(4))
		size *= shape[len(shape)-1]
	}
	if size == 0 {
		return arr(shape, []api.Item{num(0), char(' '), boxed(nums(0, 0))}[d.next(3)])
	}
	var items []api.Item
	for range size {
		items = append(items, randomItem(d, levels-1))
	}
	return arr(shape, items...)
}

func randomItem(d *dice, levels int) api.Item {
	switch d.next(4) {
	case 0:
		return char(rune('a' + d.next(3)))
	case 1:
		if a := randomArray(d, levels); levels > 0 && !simple(a) {
			return boxed(a)
		}
	case 2:
		return frac(uint32(1+2*d.next(3)), 2)
	}
	return num(d.next(5) - 2)
}

func simple(a api.Array) bool {
	return len(a.Shape) == 0 && a.Items[0].Kind != api.Box
}

func countDepth(a api.Array) int {
	if simple(a) {
		return 0
	}
	deepest := 0
	for _, i := range a.Items {
		if i.Kind == api.Box {
			deepest = max(deepest, countDepth(i.Box[0]))
		}
	}
	return 1 + deepest
}

func countCells(a api.Array) int {
	count := len(a.Items)
	for _, i := range a.Items {
		if i.Kind == api.Box {
			count += countCells(i.Box[0])
		}
	}
	return count
}

// wrongItems are items that are not right, each in another way.
func wrongItems() []api.Item {
	none := api.Rat{}
	one := rat.OfInt(1)
	return []api.Item{
		{},
		{Kind: 4, Num: one},
		{Kind: 255},
		{Num: one},
		{Kind: api.Number, Num: none},
		{Kind: api.Number, Num: api.Rat{Num: []uint32{2}, Den: []uint32{4}}},
		{Kind: api.Number, Num: api.Rat{Below: true, Den: []uint32{1}}},
		{Kind: api.Number, Num: api.Rat{Num: make([]uint32, api.MaxLimbs+1), Den: []uint32{1}}},
		{Kind: api.Number, Num: one, Char: 'a'},
		{Kind: api.Number, Num: one, Char: -1},
		{Kind: api.Number, Num: one, Box: []api.Array{nums(1)}},
		{Kind: api.Number, Num: one, Box: []api.Array{{}}},
		{Kind: api.Char, Char: -1},
		{Kind: api.Char, Char: 0xD800},
		{Kind: api.Char, Char: 0xDFFF},
		{Kind: api.Char, Char: 0x110000},
		{Kind: api.Char, Char: 'a', Num: one},
		{Kind: api.Char, Char: 'a', Num: rat.OfInt(0)},
		{Kind: api.Char, Char: 'a', Num: api.Rat{Below: true}},
		{Kind: api.Char, Char: 'a', Num: api.Rat{Num: []uint32{1}}},
		{Kind: api.Char, Char: 'a', Box: []api.Array{nums(1)}},
		{Kind: api.Box},
		{Kind: api.Box, Box: []api.Array{}},
		{Kind: api.Box, Box: []api.Array{{}}},
		{Kind: api.Box, Box: []api.Array{nums(1), nums(2)}},
		{Kind: api.Box, Box: []api.Array{arr(nil, num(1))}},
		{Kind: api.Box, Box: []api.Array{arr(nil, char('a'))}},
		{Kind: api.Box, Box: []api.Array{arr([]int{2}, num(1))}},
		{Kind: api.Box, Box: []api.Array{vec(api.Item{})}},
		{Kind: api.Box, Box: []api.Array{nums(1)}, Num: one},
		{Kind: api.Box, Box: []api.Array{nums(1)}, Num: api.Rat{Den: []uint32{1}}},
		{Kind: api.Box, Box: []api.Array{nums(1)}, Char: 'a'},
		boxed(deep(api.MaxDepth + 1)),
		boxed(great(api.MaxCells + 1)),
	}
}

// wrongArrays are arrays that are not right, each in another way.
func wrongArrays() []api.Array {
	out := []api.Array{
		{},
		arr([]int{0}),
		arr([]int{1}),
		arr(nil, num(1), num(2)),
		arr([]int{0}, num(0), num(0)),
		arr([]int{2}, num(1)),
		arr([]int{2}, num(1), num(2), num(3)),
		arr([]int{2, 2}, num(1), num(2), num(3)),
		arr([]int{-1}, num(0)),
		arr([]int{-1, -1}, num(1)),
		arr([]int{-1, 0}, num(0)),
		arr([]int{1, 1, 1, 1, 1, 1, 1, 1, 1}, num(1)),
		arr([]int{0, 0, 0, 0, 0, 0, 0, 0, 0}, num(0)),
		arr([]int{0, api.MaxItems + 1}, num(0)),
		vec(sequence(api.MaxItems + 1)...),
		arr([]int{2, 2049}, sequence(4098)...),
		arr([]int{4096, 4096, 4096, 4096, 4096, 4096}, num(0)),
		deep(api.MaxDepth + 1),
		deep(1000),
		great(api.MaxCells + 1),
		looped(),
		woven(),
	}
	for _, i := range wrongItems() {
		out = append(out, arr(nil, i), vec(num(1), i), arr([]int{0}, i), vec(boxed(vec(num(1), i))))
	}
	return out
}

// looped is an array that lies in itself.
func looped() api.Array {
	a := arr([]int{2}, api.Item{Kind: api.Box}, num(1))
	a.Items[0].Box = []api.Array{a}
	return a
}

// woven is an array that has a few lists, and more cells than could ever be counted.
func woven() api.Array {
	a := nums(1, 2)
	for range api.MaxDepth - 2 {
		items := make([]api.Item, api.MaxItems)
		for i := range items {
			items[i] = boxed(a)
		}
		a = vec(items...)
	}
	return a
}

// places are where all elements of all lists of a value lie, those of the spare room too.
func places(v any) []any {
	switch x := v.(type) {
	case api.Array:
		return append(elements(x.Shape), listed(x.Items)...)
	case api.Item:
		out := append(elements(x.Num.Num), elements(x.Num.Den)...)
		for _, a := range x.Box {
			out = append(out, places(a)...)
		}
		return append(out, elements(x.Box)...)
	case []api.Item:
		return listed(x)
	case []int:
		return elements(x)
	}
	return nil
}

func listed(items []api.Item) []any {
	out := elements(items)
	for _, i := range items {
		out = append(out, places(i)...)
	}
	return out
}

func elements[T any](l []T) []any {
	var out []any
	l = l[:cap(l)]
	for i := range l {
		out = append(out, &l[i])
	}
	return out
}

// apart fails if two lists of what was handed in and answered lie in one another.
func apart(t *testing.T, what string, in []any, answer any) {
	t.Helper()
	seen := map[any]bool{}
	for _, v := range in {
		for _, p := range places(v) {
			seen[p] = true
		}
	}
	for _, p := range places(answer) {
		if seen[p] {
			t.Fatal(what, "has a list that lies in another one")
		}
		seen[p] = true
	}
}

// roomy is an array with all its lists in longer ones, and the longer lists of its items.
func roomy(a api.Array) (api.Array, [][]api.Item) {
	shape := append(append([]int(nil), a.Shape...), 77, 78)
	items := append(append([]api.Item(nil), a.Items...), num(79), char('z'))
	whole := [][]api.Item{items}
	for i := range a.Items {
		if items[i].Kind == api.Box {
			inner, more := roomy(a.Items[i].Box[0])
			items[i].Box = []api.Array{inner, nums(80)}[:1]
			whole = append(whole, more...)
		}
		items[i].Num.Num = append(append([]uint32(nil), items[i].Num.Num...), 81)[:len(items[i].Num.Num)]
	}
	return api.Array{Shape: shape[:len(a.Shape)], Items: items[:len(a.Items)]}, whole
}

// snapshot is a text of an array and of all the room of its lists.
func snapshot(a api.Array, whole [][]api.Item) string {
	text := fmt.Sprint(a, a.Shape[:cap(a.Shape)])
	for _, items := range whole {
		text += fmt.Sprint(items)
		for _, i := range items {
			text += fmt.Sprint(i.Num.Num[:cap(i.Num.Num)], i.Box[:cap(i.Box)])
			for _, inner := range i.Box {
				text += fmt.Sprint(inner.Shape[:cap(inner.Shape)])
			}
		}
	}
	return text
}

// alike holds arrays against each other field by field; an empty list may be nil or not.
func alike(a, b api.Array) bool {
	if len(a.Shape) != len(b.Shape) || len(a.Items) != len(b.Items) {
		return false
	}
	for k := range a.Shape {
		if a.Shape[k] != b.Shape[k] {
			return false
		}
	}
	for k := range a.Items {
		if !alikeItems(a.Items[k], b.Items[k]) {
			return false
		}
	}
	return true
}

func alikeItems(i, j api.Item) bool {
	if i.Kind != j.Kind || i.Char != j.Char || !alikeNumbers(i.Num, j.Num) || len(i.Box) != len(j.Box) {
		return false
	}
	for k := range i.Box {
		if !alike(i.Box[k], j.Box[k]) {
			return false
		}
	}
	return true
}

func alikeNumbers(x, y api.Rat) bool {
	list := func(l []uint32) []uint32 { return append([]uint32{}, l...) }
	return x.Below == y.Below && reflect.DeepEqual(list(x.Num), list(y.Num)) && reflect.DeepEqual(list(x.Den), list(y.Den))
}

func isZero(a api.Array) bool {
	return len(a.Shape) == 0 && len(a.Items) == 0
}

func isZeroItem(i api.Item) bool {
	return alikeItems(i, api.Item{})
}
