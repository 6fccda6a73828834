package oper_test

import (
	"fmt"
	"slices"
	"strings"
	"testing"

	"glyph/api"
	"glyph/array"
	"glyph/oper"
	"glyph/rat"
)

// dice is a row of numbers that is the same at every run.
type dice uint64

func (d *dice) next(n int) int {
	*d ^= *d << 13
	*d ^= *d >> 7
	*d ^= *d << 17
	return int(uint64(*d) >> 1 % uint64(n))
}

// Arrays of the tests are written out here, not made by the package.

func frac(num int, den uint32) api.Rat {
	x, _ := rat.Div(rat.OfInt(num), rat.OfInt(int(den)))
	return x
}

func number(x api.Rat) api.Item {
	return api.Item{Kind: api.Number, Num: x}
}

func num(n int) api.Item {
	return number(rat.OfInt(n))
}

func char(c rune) api.Item {
	return api.Item{Kind: api.Char, Char: c}
}

func boxed(a api.Array) api.Item {
	return api.Item{Kind: api.Box, Box: []api.Array{a}}
}

func arr(shape []int, items ...api.Item) api.Array {
	return api.Array{Shape: shape, Items: items}
}

func one(i api.Item) api.Array {
	return arr(nil, i)
}

func vec(items ...api.Item) api.Array {
	return arr([]int{len(items)}, items...)
}

func nums(l ...int) api.Array {
	return arr([]int{len(l)}, numItems(l...)...)
}

func numItems(l ...int) []api.Item {
	var items []api.Item
	for _, n := range l {
		items = append(items, num(n))
	}
	return items
}

func sequence(n int) []int {
	var l []int
	for i := range n {
		l = append(l, i+1)
	}
	return l
}

// repeated is a vector of so many times one item.
func repeated(n int, i api.Item) api.Array {
	return vec(slices.Repeat([]api.Item{i}, n)...)
}

func text(s string) api.Array {
	var items []api.Item
	for _, c := range s {
		items = append(items, char(c))
	}
	return vec(items...)
}

// none is an array without items.
func none(proto api.Item, shape ...int) api.Array {
	return arr(shape, proto)
}

// deep is an array of so many levels, from 1 on: scalars, and a vector at last.
func deep(levels int) api.Array {
	a := nums(1, 0)
	for range levels - 1 {
		a = one(boxed(a))
	}
	return a
}

// great is a whole number that no int holds.
func great(below bool) api.Item {
	return number(api.Rat{Below: below, Num: []uint32{1, 0, 1}, Den: []uint32{1}})
}

func env(io int) api.Env {
	return api.Env{IO: io, CT: rat.OfInt(0)}
}

// wrongNumbers are not right, each in another way.
func wrongNumbers() []api.Rat {
	return []api.Rat{
		{}, {Num: []uint32{1}}, {Num: []uint32{2}, Den: []uint32{4}}, {Below: true, Den: []uint32{1}}, {Num: []uint32{1, 0}, Den: []uint32{1}},
		{Num: []uint32{1}, Den: []uint32{0}}, {Num: append(make([]uint32, api.MaxLimbs), 1), Den: []uint32{1}}, {Den: []uint32{2}},
	}
}

// wrongArrays are not right, each in another way.
func wrongArrays() []api.Array {
	looped := vec(num(1), num(2))
	looped.Items[1] = boxed(looped)
	out := []api.Array{
		{}, arr([]int{0}), arr([]int{1}), arr(nil, num(1), num(2)), arr([]int{0}, num(0), num(0)), arr([]int{2}, num(1)), arr([]int{-1}, num(0)), arr([]int{-1, -1}, num(1)),
		arr([]int{1, 1, 1, 1, 1, 1, 1, 1, 1}, num(1)), none(num(0), 0, api.MaxItems+1), nums(sequence(api.MaxItems + 1)...), deep(api.MaxDepth + 1), looped,
		one(api.Item{}), vec(num(1), api.Item{Kind: 9}), vec(api.Item{Kind: api.Number, Num: rat.OfInt(1), Char: 'a'}), vec(char(0xD800)), vec(char(-1)), none(api.Item{}, 0),
		vec(api.Item{Kind: api.Box}), vec(boxed(one(num(1)))), vec(boxed(vec(num(1), api.Item{}))), vec(num(1), boxed(none(api.Item{}, 0))),
	}
	for _, x := range wrongNumbers() {
		out = append(out, one(number(x)), vec(num(1), boxed(vec(num(1), number(x)))))
	}
	return out
}

// samples are right arrays with few cells.
func samples() []api.Array {
	out := []api.Array{
		one(num(0)), one(num(5)), one(number(frac(-7, 3))), one(char('a')), nums(1), nums(0, 1), nums(1, 2, 3), nums(3, -1, 0), text("a"), text("abc"), vec(num(1), char('b'), num(0)),
		arr([]int{1, 1}, num(3)), arr([]int{1, 1, 1, 1, 1, 1, 1, 1}, num(2)), counted(2, 3), counted(3, 1), counted(2, 3, 2), counted(3, 2),
		none(num(0), 0), none(char(' '), 0), none(num(0), 0, 3), none(char(' '), 3, 0), none(boxed(nums(0, 0)), 0), none(boxed(none(char(' '), 0)), 2, 0), none(num(5), 0), none(num(0), 0, 0),
		one(boxed(nums(1, 0))), one(boxed(none(char(' '), 0))), vec(boxed(nums(1, 2)), num(3)), vec(num(3), boxed(vec(num(1), boxed(arr([]int{1, 2}, num(0), num(1)))))),
		vec(boxed(text("ab")), boxed(nums(1, 1))), vec(boxed(nums(1, 2, 3)), boxed(nums(1, 2)), num(1)), vec(boxed(nums(4))), deep(3), deep(api.MaxDepth),
	}
	d := dice(88172645463325252)
	for range 12 {
		out = append(out, randomArray(&d, 3))
	}
	return out
}

func randomArray(d *dice, levels int) api.Array {
	shape, size := []int(nil), 1
	for range d.next(4) {
		shape = append(shape, []int{0, 1, 2, 2, 3, 3}[d.next(6)])
		size *= shape[len(shape)-1]
	}
	if size == 0 {
		return arr(shape, []api.Item{num(0), char(' '), boxed(nums(0, 0))}[d.next(3)])
	}
	var items []api.Item
	for range size {
		items = append(items, randomItem(d, levels-1))
	}
	return arr(shape, items...)
}

func randomItem(d *dice, levels int) api.Item {
	switch d.next(9) {
	case 0:
		return char(rune('a' + d.next(3)))
	case 1:
		if a := randomArray(d, levels); levels > 0 && (len(a.Shape) > 0 || a.Items[0].Kind == api.Box) {
			return boxed(a)
		}
	case 2:
		return number(frac(1+2*d.next(3), 2))
	}
	return num(d.next(5) - 1)
}

// counted is an array of a shape with the numbers from 1 on.
func counted(shape ...int) api.Array {
	if sizeOf(shape) == 0 {
		return none(num(0), shape...)
	}
	return arr(shape, numItems(sequence(sizeOf(shape))...)...)
}

func sizeOf(shape []int) int {
	n := 1
	for _, k := range shape {
		n *= k
	}
	return n
}

// indexOf are the places along each axis of an item, from 0 on; placeOf is its place in ravel order.
func indexOf(shape []int, place int) []int {
	out := make([]int, len(shape))
	for k := len(shape) - 1; k >= 0; k-- {
		out[k], place = place%shape[k], place/shape[k]
	}
	return out
}

func placeOf(shape, index []int) int {
	place := 0
	for k := range shape {
		place = place*shape[k] + index[k]
	}
	return place
}

// Functions of the tests are written short.

func prim(glyph string) api.Func {
	return api.Func{Kind: api.Prim, Text: glyph}
}

func op(f api.Func, operator string) api.Func {
	return api.Func{Kind: api.Op1, Text: operator, Parts: []api.Func{f}}
}

func dot(f, g api.Func) api.Func {
	return api.Func{Kind: api.Op2, Text: ".", Parts: []api.Func{f, g}}
}

func jot(f api.Func) api.Func {
	return api.Func{Kind: api.Op2, Text: "∘.", Parts: []api.Func{f}}
}

func at(f api.Func, axis api.Array) api.Func {
	return api.Func{Kind: api.AxisOf, Parts: []api.Func{f}, Where: []api.Tree{{Kind: api.Const, Array: axis}}}
}

func user(name string) api.Func {
	return api.Func{Kind: api.User, Text: name}
}

// with is a list of one left argument.
func with(a api.Array) []api.Array {
	return []api.Array{a}
}

const plenty = 1 << 30

// does applies a function by steps in plenty.
func does(f api.Func, left []api.Array, right api.Array) (api.Array, api.Errno) {
	a, _, e := oper.Plain(env(1), plenty, f, left, right)
	return a, e
}

// gives asks what a function makes of its arguments, and how many steps it takes; with a negative number of steps these are not asked.
func gives(t *testing.T, f api.Func, left []api.Array, right, want api.Array, steps int) {
	t.Helper()
	got, used, e := oper.Plain(env(1), plenty, f, left, right)
	expect(t, oper.Print(f), got, e, want, api.OK)
	if steps >= 0 && used != steps {
		t.Error(oper.Print(f), "takes", used, "steps, not", steps)
	}
}

// fails asks for the error of a function, and how many steps it takes.
func fails(t *testing.T, f api.Func, left []api.Array, right api.Array, want api.Errno, steps int) {
	t.Helper()
	got, used, e := oper.Plain(env(1), plenty, f, left, right)
	expect(t, oper.Print(f), got, e, api.Array{}, want)
	if steps >= 0 && used != steps {
		t.Error(oper.Print(f), "takes", used, "steps, not", steps)
	}
}

// expect asks for an array; where the error is not OK, for none.
func expect(t *testing.T, what any, got api.Array, e api.Errno, want api.Array, wantE api.Errno) {
	t.Helper()
	if e != wantE {
		t.Error(what, "error", e, "want", wantE)
		return
	}
	if e != api.OK && (len(got.Shape) > 0 || len(got.Items) > 0) {
		t.Error(what, "has an error, and", got)
	}
	if e == api.OK && !array.Match(got, want) {
		t.Error(what, "is", got, "want", want)
	}
}

// places are where all elements of all lists of a value lie, those of the spare room too.
func places(v any) []any {
	var out []any
	switch x := v.(type) {
	case api.Array:
		out = append(elements(x.Shape), elements(x.Items)...)
		for _, i := range x.Items {
			out = append(append(out, elements(i.Num.Num)...), elements(i.Num.Den)...)
			out = append(append(out, elements(i.Box)...), placesOfAll(i.Box)...)
		}
	case api.Func:
		out = append(append(out, elements(x.Parts)...), placesOfAll(x.Parts)...)
		out = append(append(out, elements(x.Where)...), placesOfAll(x.Where)...)
	case api.Tree:
		out = append(append(places(x.Array), elements(x.Fn)...), placesOfAll(x.Fn)...)
		out = append(append(out, elements(x.Parts)...), placesOfAll(x.Parts)...)
	}
	return out
}

func placesOfAll[T any](l []T) []any {
	var out []any
	for _, v := range l {
		out = append(out, places(v)...)
	}
	return out
}

func elements[T any](l []T) []any {
	var out []any
	l = l[:cap(l)]
	for i := range l {
		out = append(out, &l[i])
	}
	return out
}

// apart fails if two lists of what was handed in and answered lie in one another.
func apart(t *testing.T, what any, answer any, in ...any) {
	t.Helper()
	seen := map[any]bool{}
	for _, v := range in {
		for _, p := range places(v) {
			seen[p] = true
		}
	}
	for _, p := range places(answer) {
		if seen[p] {
			t.Fatal(what, "has a list that lies in another one")
		}
		seen[p] = true
	}
}

// roomy is an array with all its lists in longer ones.
func roomy(a api.Array) api.Array {
	out := api.Array{Shape: append(slices.Clone(a.Shape), 77, 78)[:len(a.Shape)]}
	items := append(slices.Clone(a.Items), num(79), char('z'))
	for k := range a.Items {
		i := &items[k]
		i.Num.Num = append(slices.Clone(i.Num.Num), 81)[:len(i.Num.Num)]
		i.Num.Den = append(slices.Clone(i.Num.Den), 82)[:len(i.Num.Den)]
		if i.Kind == api.Box {
			i.Box = []api.Array{roomy(i.Box[0]), nums(80)}[:1]
		}
	}
	out.Items = items[:len(a.Items)]
	return out
}

// snapshot is a text of an array and of all the room of its lists.
func snapshot(a api.Array) string {
	var s strings.Builder
	fmt.Fprint(&s, a.Shape[:cap(a.Shape)])
	for _, i := range a.Items[:cap(a.Items)] {
		fmt.Fprint(&s, i.Kind, i.Char, i.Num.Below, i.Num.Num[:cap(i.Num.Num)], i.Num.Den[:cap(i.Num.Den)])
		for _, inner := range i.Box[:cap(i.Box)] {
			s.WriteString("(" + snapshot(inner) + ")")
		}
	}
	return s.String()
}

// recorder is a caller whose functions are told as it is made; it writes down what it is asked.
type recorder struct {
	env   api.Env
	steps int // how many there are left
	log   []string
	call  func(f api.Func, left []api.Array, right api.Array) (api.Array, api.Errno)
	axis  func(f api.Func) (api.Array, api.Errno)
}

func (r *recorder) Call(f api.Func, left []api.Array, right api.Array) (api.Array, api.Errno) {
	said := f.Text
	for _, a := range left {
		said = literal(a) + said
	}
	r.log = append(r.log, said+literal(right))
	return r.call(f, left, right)
}

func (r *recorder) Step() api.Errno {
	if r.steps == 0 {
		return api.Interrupt
	}
	r.steps--
	r.log = append(r.log, "step")
	return api.OK
}

func (r *recorder) Axis(f api.Func) (api.Array, api.Errno) {
	r.log = append(r.log, "axis")
	return r.axis(f)
}

func (r *recorder) Env() api.Env {
	return r.env
}

// calls are what was called, in order, without the steps.
func (r *recorder) calls() string {
	return strings.Join(slices.DeleteFunc(slices.Clone(r.log), func(s string) bool { return s == "step" }), " ")
}

// literal is a short text of an array: its items one behind the other; of boxes in brackets.
func literal(a api.Array) string {
	var s strings.Builder
	for _, i := range a.Items {
		switch i.Kind {
		case api.Number:
			s.WriteString(rat.Print(i.Num))
		case api.Char:
			s.WriteRune(i.Char)
		case api.Box:
			s.WriteString("(" + literal(i.Box[0]) + ")")
		}
	}
	return s.String()
}
