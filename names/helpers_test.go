package names_test

import (
	"reflect"
	"slices"
	"strconv"
	"testing"

	"glyph/api"
	"glyph/array"
	"glyph/names"
)

// dice is a row of numbers that is the same at every run.
type dice uint64

func (d *dice) next(n int) int {
	*d ^= *d << 13
	*d ^= *d >> 7
	*d ^= *d << 17
	return int(uint64(*d) >> 1 % uint64(n))
}

// Bounds of the tests are written short.

func variable(a api.Array) names.Bound {
	return names.Bound{Class: api.Variable, Array: a}
}

func function(f api.Fn) names.Bound {
	return names.Bound{Class: api.Function, Fn: f}
}

func label(line int) names.Bound {
	return names.Bound{Class: api.Label, Line: line}
}

// rich is a function with something in each field; no call of this package asks whether it can be.
func rich(name string) api.Fn {
	return api.Fn{Name: name, Result: "R", Left: "A", Right: "B", Locals: []string{"X", "Y"}, Labels: []string{"L", "M"}, At: []int{1, 2}, Lines: []string{"R←A " + name + " B;X;Y", "L:1", "M:2"}, Braces: true}
}

// nested is an array with lists at two levels.
func nested() api.Array {
	a, e := array.Make([]int{2}, array.Enclose(array.Ints(1, 2, 3)), array.Enclose(array.Text("ab")))
	if e != api.OK {
		panic("nested")
	}
	return a
}

// wrongArrays are arrays that are not right.
func wrongArrays() []api.Array {
	return []api.Array{
		{}, {Shape: []int{2}, Items: array.Ints(1).Items}, {Shape: []int{0}}, {Shape: []int{-1}, Items: array.Ints(1).Items},
		{Items: []api.Item{{Kind: 9}}}, {Items: []api.Item{{Kind: api.Char, Char: 0xD800}}}, {Items: []api.Item{{Kind: api.Number}}}, {Items: []api.Item{{Kind: api.Box}}},
	}
}

// alike holds what names have against each other, all fields; a list that is nil is an empty one.
func alike(a, b names.Bound) bool {
	if len(a.Array.Items) != len(b.Array.Items) || len(a.Array.Items) > 0 && !array.Match(a.Array, b.Array) || len(a.Array.Shape) != len(b.Array.Shape) {
		return false
	}
	f, g := a.Fn, b.Fn
	lists := slices.Equal(f.Locals, g.Locals) && slices.Equal(f.Labels, g.Labels) && slices.Equal(f.At, g.At) && slices.Equal(f.Lines, g.Lines)
	f.Locals, f.Labels, f.At, f.Lines, g.Locals, g.Labels, g.At, g.Lines = nil, nil, nil, nil, nil, nil, nil, nil
	return a.Class == b.Class && a.Line == b.Line && lists && reflect.DeepEqual(f, g)
}

// has asks all calls that tell what a name is now.
func has(t *testing.T, n *names.Table, name string, want names.Bound) {
	t.Helper()
	if got, ok := n.Get(name); !ok || !alike(got, want) {
		t.Errorf("%s is %+v %v, want %+v", name, got, ok, want)
	}
	if got := n.Class(name); got != want.Class {
		t.Errorf("%s is of the class %v, want %v", name, got, want.Class)
	}
	if !slices.Contains(n.List(want.Class), name) {
		t.Errorf("%s is not listed", name)
	}
}

// hasNot asks them of a name that has nothing.
func hasNot(t *testing.T, n *names.Table, name string) {
	t.Helper()
	if got, ok := n.Get(name); ok || !alike(got, names.Bound{}) || n.Class(name) != api.Free {
		t.Errorf("%s is %+v %v %v", name, got, ok, n.Class(name))
	}
	if slices.Contains(n.List(api.Free, api.Label, api.Variable, api.Function), name) {
		t.Errorf("%s is listed", name)
	}
}

func outside(t *testing.T, n *names.Table, name string, want names.Bound) {
	t.Helper()
	if got, ok := n.Global(name); ok != (want.Class != api.Free) || !alike(got, want) {
		t.Errorf("%s is %+v %v outside, want %+v", name, got, ok, want)
	}
}

// says asks for an error.
func says(t *testing.T, what string, got, want api.Errno) {
	t.Helper()
	if got != want {
		t.Errorf("%s: %v, want %v", what, got, want)
	}
}

// numbered is a name with a number behind it.
func numbered(front string, n int) string {
	return front + strconv.Itoa(n)
}

// elements are where those of a list lie, those of the spare room too.
func elements[T any](l []T) []any {
	var out []any
	l = l[:cap(l)]
	for i := range l {
		out = append(out, &l[i])
	}
	return out
}

func placesOfArray(a api.Array) []any {
	out := append(elements(a.Shape), elements(a.Items)...)
	for _, i := range a.Items {
		out = append(append(append(out, elements(i.Num.Num)...), elements(i.Num.Den)...), elements(i.Box)...)
		for _, inner := range i.Box {
			out = append(out, placesOfArray(inner)...)
		}
	}
	return out
}

// places are where all elements of all lists of what a name has lie.
func places(b names.Bound) []any {
	out := append(placesOfArray(b.Array), elements(b.Fn.Locals)...)
	return append(append(append(out, elements(b.Fn.Labels)...), elements(b.Fn.At)...), elements(b.Fn.Lines)...)
}

// spoil changes everything in what a name has.
func spoil(b names.Bound) {
	spoilArray(b.Array)
	for _, l := range [][]string{b.Fn.Locals, b.Fn.Labels, b.Fn.Lines} {
		for i := range l {
			l[i] = "spoilt"
		}
	}
	for i := range b.Fn.At {
		b.Fn.At[i] = -1
	}
}

func spoilArray(a api.Array) {
	for i := range a.Shape {
		a.Shape[i] = 77
	}
	for i := range a.Items {
		for k := range a.Items[i].Num.Num {
			a.Items[i].Num.Num[k] = 78
		}
		for _, inner := range a.Items[i].Box {
			spoilArray(inner)
		}
		a.Items[i] = api.Item{}
	}
}
