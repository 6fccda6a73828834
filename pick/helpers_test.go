package pick_test

import (
	"fmt"
	"math"
	"slices"
	"strings"
	"testing"

	"glyph/api"
	"glyph/array"
	"glyph/rat"
)

// dice is a row of numbers that is the same at every run.
type dice uint64

func (d *dice) next(n int) int {
	*d ^= *d << 13
	*d ^= *d >> 7
	*d ^= *d << 17
	return int(uint64(*d) >> 1 % uint64(n))
}

// Arrays of the tests are written out here, not made by the package.

func frac(num int, den uint32) api.Rat {
	x, _ := rat.Div(rat.OfInt(num), rat.OfInt(int(den)))
	return x
}

func number(x api.Rat) api.Item {
	return api.Item{Kind: api.Number, Num: x}
}

func num(n int) api.Item {
	return number(rat.OfInt(n))
}

func char(c rune) api.Item {
	return api.Item{Kind: api.Char, Char: c}
}

func boxed(a api.Array) api.Item {
	return api.Item{Kind: api.Box, Box: []api.Array{a}}
}

func arr(shape []int, items ...api.Item) api.Array {
	return api.Array{Shape: shape, Items: items}
}

func one(i api.Item) api.Array {
	return arr(nil, i)
}

func vec(items ...api.Item) api.Array {
	return arr([]int{len(items)}, items...)
}

func nums(l ...int) api.Array {
	return arr([]int{len(l)}, numItems(l...)...)
}

func numItems(l ...int) []api.Item {
	var items []api.Item
	for _, n := range l {
		items = append(items, num(n))
	}
	return items
}

func sequence(n int) []int {
	var l []int
	for i := range n {
		l = append(l, i+1)
	}
	return l
}

func text(s string) api.Array {
	var items []api.Item
	for _, c := range s {
		items = append(items, char(c))
	}
	return vec(items...)
}

// none is an array without items.
func none(proto api.Item, shape ...int) api.Array {
	return arr(shape, proto)
}

// deep is an array of so many levels, from 1 on: scalars, and a vector at last.
func deep(levels int) api.Array {
	a := nums(1, 0)
	for range levels - 1 {
		a = one(boxed(a))
	}
	return a
}

func env(io int) api.Env {
	return api.Env{IO: io}
}

const (
	monadic = "⊂⊃↑∊⍋⍒∪≡≢⍳"
	dyadic  = "⊃⍳∊~∪≡≢⊤⊥⌷"
)

// great is a whole number that no int holds.
func great(below bool) api.Item {
	return number(api.Rat{Below: below, Num: []uint32{1, 0, 1}, Den: []uint32{1}})
}

// power is 2 to the power of n, in at most 32 limbs: n is at most 1023.
func power(n int) api.Rat {
	x, _ := rat.Power(rat.OfInt(2), rat.OfInt(n))
	return x
}

func wrongOrigins() []int {
	return []int{-1, 2, math.MinInt, math.MaxInt}
}

// wrongNumbers are not right, each in another way.
func wrongNumbers() []api.Rat {
	return []api.Rat{
		{}, {Num: []uint32{1}}, {Num: []uint32{2}, Den: []uint32{4}}, {Below: true, Den: []uint32{1}}, {Num: []uint32{1, 0}, Den: []uint32{1}},
		{Num: []uint32{1}, Den: []uint32{0}}, {Num: []uint32{1}, Den: []uint32{}}, {Num: append(make([]uint32, api.MaxLimbs), 1), Den: []uint32{1}}, {Den: []uint32{2}},
	}
}

// wrongArrays are not right, each in another way.
func wrongArrays() []api.Array {
	looped := vec(num(1), num(2))
	looped.Items[1] = boxed(looped)
	out := []api.Array{
		{}, arr([]int{0}), arr([]int{1}), arr(nil, num(1), num(2)), arr([]int{0}, num(0), num(0)), arr([]int{2}, num(1)), arr([]int{-1}, num(0)), arr([]int{-1, -1}, num(1)),
		arr([]int{1, 1, 1, 1, 1, 1, 1, 1, 1}, num(1)), none(num(0), 0, api.MaxItems+1), nums(sequence(api.MaxItems + 1)...), deep(api.MaxDepth + 1), looped,
		one(api.Item{}), vec(num(1), api.Item{Kind: 9}), vec(api.Item{Kind: api.Number, Num: rat.OfInt(1), Char: 'a'}), vec(char(0xD800)), vec(char(-1)), none(api.Item{}, 0),
		vec(api.Item{Kind: api.Char, Char: 'a', Num: rat.OfInt(0)}), vec(api.Item{Kind: api.Box}), vec(boxed(one(num(1)))), vec(boxed(vec(num(1), api.Item{}))), vec(num(1), boxed(none(api.Item{}, 0))),
		{Shape: []int{1}, Items: []api.Item{{Kind: api.Box, Box: []api.Array{nums(1), nums(2)}}}},
	}
	for _, x := range wrongNumbers() {
		out = append(out, one(number(x)), vec(num(1), boxed(vec(num(1), number(x)))))
	}
	return out
}

// samples are right arrays with few cells.
func samples() []api.Array {
	out := []api.Array{
		one(num(0)), one(num(5)), one(number(frac(-7, 3))), one(char('a')), nums(1), nums(0, 1), nums(1, 2, 3), nums(3, -1, 0), text("a"), text("abc"), vec(num(1), char('b'), num(0)),
		arr([]int{1, 1}, num(3)), arr([]int{1, 1, 1}, char('a')), arr([]int{1, 1, 1, 1, 1, 1, 1, 1}, num(2)), arr([]int{2, 3}, numItems(sequence(6)...)...), arr([]int{3, 1}, numItems(7, 8, 9)...),
		none(num(0), 0), none(char(' '), 0), none(num(0), 0, 3), none(char(' '), 3, 0), none(boxed(nums(0, 0)), 0), none(boxed(none(char(' '), 0)), 2, 0), none(num(5), 0),
		one(boxed(nums(1, 0))), one(boxed(none(char(' '), 0))), one(boxed(none(boxed(nums(0, 0)), 0))), vec(boxed(nums(1, 2)), num(3)), vec(num(3), boxed(vec(num(1), boxed(arr([]int{1, 2}, num(0), num(1)))))),
		vec(boxed(text("ab")), boxed(nums(1, 1))), vec(boxed(nums(1, 2, 3)), boxed(nums(1, 2)), num(1)), vec(boxed(one(boxed(nums(1)))), num(0)), vec(boxed(nums(4))), deep(3), deep(api.MaxDepth),
	}
	d := dice(88172645463325252)
	for range 30 {
		out = append(out, randomArray(&d, 4))
	}
	return out
}

func randomArray(d *dice, levels int) api.Array {
	shape, size := []int(nil), 1
	for range d.next(3) {
		shape = append(shape, d.next(4))
		size *= shape[len(shape)-1]
	}
	if size == 0 {
		return arr(shape, []api.Item{num(0), char(' '), boxed(nums(0, 0))}[d.next(3)])
	}
	var items []api.Item
	for range size {
		items = append(items, randomItem(d, levels-1))
	}
	return arr(shape, items...)
}

func randomItem(d *dice, levels int) api.Item {
	switch d.next(8) {
	case 0:
		return char(rune('a' + d.next(3)))
	case 1, 2:
		if a := randomArray(d, levels); levels > 0 && (len(a.Shape) > 0 || a.Items[0].Kind == api.Box) {
			return boxed(a)
		}
	case 3:
		return number(frac(1+2*d.next(3), 2))
	}
	return num(d.next(5) - 1)
}

// expect asks for an array; where the error is not OK, for none.
func expect(t *testing.T, what any, got api.Array, e api.Errno, want api.Array, wantE api.Errno) {
	t.Helper()
	if e != wantE {
		t.Error(what, "error", e, "want", wantE)
		return
	}
	if e != api.OK && (len(got.Shape) > 0 || len(got.Items) > 0) {
		t.Error(what, "has an error, and", got)
	}
	if e == api.OK && !array.Match(got, want) {
		t.Error(what, "is", got, "want", want)
	}
}

// places are where all elements of all lists of a value lie, those of the spare room too.
func places(v any) []any {
	switch x := v.(type) {
	case api.Array:
		out := append(elements(x.Shape), elements(x.Items)...)
		for _, i := range x.Items {
			out = append(append(out, places(i.Num)...), elements(i.Box)...)
			for _, a := range i.Box {
				out = append(out, places(a)...)
			}
		}
		return out
	case api.Rat:
		return append(elements(x.Num), elements(x.Den)...)
	case [][]api.Array:
		out := elements(x)
		for _, l := range x {
			out = append(out, elements(l)...)
			for _, a := range l {
				out = append(out, places(a)...)
			}
		}
		return out
	}
	return nil
}

func elements[T any](l []T) []any {
	var out []any
	l = l[:cap(l)]
	for i := range l {
		out = append(out, &l[i])
	}
	return out
}

// apart fails if two lists of what was handed in and answered lie in one another.
func apart(t *testing.T, what any, answer any, in ...any) {
	t.Helper()
	seen := map[any]bool{}
	for _, v := range in {
		for _, p := range places(v) {
			seen[p] = true
		}
	}
	for _, p := range places(answer) {
		if seen[p] {
			t.Fatal(what, "has a list that lies in another one")
		}
		seen[p] = true
	}
}

// roomy is an array with all its lists in longer ones.
func roomy(a api.Array) api.Array {
	out := api.Array{Shape: append(slices.Clone(a.Shape), 77, 78)[:len(a.Shape)]}
	items := append(slices.Clone(a.Items), num(79), char('z'))
	for k := range a.Items {
		i := &items[k]
		i.Num.Num = append(slices.Clone(i.Num.Num), 81)[:len(i.Num.Num)]
		i.Num.Den = append(slices.Clone(i.Num.Den), 82)[:len(i.Num.Den)]
		if i.Kind == api.Box {
			i.Box = []api.Array{roomy(i.Box[0]), nums(80)}[:1]
		}
	}
	out.Items = items[:len(a.Items)]
	return out
}

// snapshot is a text of an array and of all the room of its lists.
func snapshot(a api.Array) string {
	var s strings.Builder
	fmt.Fprint(&s, a.Shape[:cap(a.Shape)])
	for _, i := range a.Items[:cap(a.Items)] {
		fmt.Fprint(&s, i.Kind, i.Char, i.Num.Below, i.Num.Num[:cap(i.Num.Num)], i.Num.Den[:cap(i.Num.Den)])
		for _, inner := range i.Box[:cap(i.Box)] {
			s.WriteString("(" + snapshot(inner) + ")")
		}
	}
	return s.String()
}

func sizeOf(shape []int) int {
	n := 1
	for _, k := range shape {
		n *= k
	}
	return n
}

// indexOf are the places along each axis of an item, from 0 on; placeOf is its place in ravel order.
func indexOf(shape []int, place int) []int {
	out := make([]int, len(shape))
	for k := len(shape) - 1; k >= 0; k-- {
		out[k], place = place%shape[k], place/shape[k]
	}
	return out
}

func placeOf(shape, index []int) int {
	place := 0
	for k := range shape {
		place = place*shape[k] + index[k]
	}
	return place
}

// built is an array with each item what is told of its places; of an empty one the prototype.
func built(shape []int, proto api.Item, item func(index []int) api.Item) api.Array {
	if sizeOf(shape) == 0 {
		return none(proto, shape...)
	}
	out := arr(shape)
	for place := range sizeOf(shape) {
		out.Items = append(out.Items, item(indexOf(shape, place)))
	}
	return out
}

// itemAt is the item of an array at its places along each axis.
func itemAt(a api.Array, index []int) api.Item {
	return a.Items[placeOf(a.Shape, index)]
}

// counted is an array of a shape with the numbers from 1 on.
func counted(shape ...int) api.Array {
	if sizeOf(shape) == 0 {
		return none(num(0), shape...)
	}
	return arr(shape, numItems(sequence(sizeOf(shape))...)...)
}
