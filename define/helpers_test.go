package define_test

import (
	"reflect"
	"slices"
	"strconv"
	"strings"
	"testing"

	"glyph/api"
	"glyph/array"
	"glyph/define"
)

// dice is a row of numbers that is the same at every run.
type dice uint64

func (d *dice) next(n int) int {
	*d ^= *d << 13
	*d ^= *d >> 7
	*d ^= *d << 17
	return int(uint64(*d) >> 1 % uint64(n))
}

func (d *dice) choice(l ...string) string {
	return l[d.next(len(l))]
}

// numbered are so many names with numbers.
func numbered(front string, count int) []string {
	var out []string
	for i := range count {
		out = append(out, front+strconv.Itoa(i))
	}
	return out
}

// alike holds functions against each other, all fields; a list that is nil is an empty one.
func alike(f, g api.Fn) bool {
	for _, h := range []*api.Fn{&f, &g} {
		h.Locals, h.Labels, h.At, h.Lines = append([]string{}, h.Locals...), append([]string{}, h.Labels...), append([]int{}, h.At...), append([]string{}, h.Lines...)
	}
	return reflect.DeepEqual(f, g)
}

// heads asks for what a header says; its lines are it alone.
func heads(t *testing.T, s string, want api.Fn) {
	t.Helper()
	want.Lines = []string{s}
	if got, e := define.Header(s); e != api.OK || !alike(got, want) {
		t.Errorf("Header %q: %+v %v, want %+v", s, got, e, want)
	}
	if got, e, at := define.Make(s); e != api.OK || at != 0 || !alike(got, want) {
		t.Errorf("Make %q: %+v %v %v, want %+v", s, got, e, at, want)
	}
}

// headsNot asks for the error of what is no header.
func headsNot(t *testing.T, s string) {
	t.Helper()
	if got, e := define.Header(s); e != api.ErrDefn || !alike(got, api.Fn{}) {
		t.Errorf("Header %q: %+v %v", s, got, e)
	}
	wrong(t, 0, s)
	wrong(t, 0, s, "A←1")
	wrong(t, 0, s, "'a") // the header is told first
}

// makes asks for the function that lines define.
func makes(t *testing.T, want api.Fn, lines ...string) {
	t.Helper()
	want.Lines = lines
	got, e, at := define.Make(lines...)
	if e != api.OK || at != 0 || !alike(got, want) {
		t.Errorf("%q: %+v %v %v, want %+v", lines, got, e, at, want)
	}
}

// wrong asks for the error of lines, and its place.
func wrong(t *testing.T, place int, lines ...string) {
	t.Helper()
	if got, e, at := define.Make(lines...); e != api.ErrDefn || at != place || !alike(got, api.Fn{}) {
		t.Errorf("%q: %+v %v %v, want it wrong at %v", lines, got, e, at, place)
	}
}

// made is a function that must be.
func made(lines ...string) api.Fn {
	f, e, _ := define.Make(lines...)
	if e != api.OK {
		panic(strings.Join(lines, "\n"))
	}
	return f
}

// Arrays of the tests are written out here.

func char(c rune) api.Item {
	return api.Item{Kind: api.Char, Char: c}
}

func chars(s string) []api.Item {
	var out []api.Item
	for _, c := range s {
		out = append(out, char(c))
	}
	return out
}

// text is a vector of characters; one without any has a blank.
func text(s string) api.Array {
	if s == "" {
		return api.Array{Shape: []int{0}, Items: chars(" ")}
	}
	return api.Array{Shape: []int{len([]rune(s))}, Items: chars(s)}
}

func boxed(a api.Array) api.Item {
	return api.Item{Kind: api.Box, Box: []api.Array{a}}
}

// texts is a vector of vectors of characters.
func texts(lines ...string) api.Array {
	a := api.Array{Shape: []int{len(lines)}}
	for _, line := range lines {
		a.Items = append(a.Items, boxed(text(line)))
	}
	return a
}

// matrix is lines of one width.
func matrix(lines ...string) api.Array {
	a := api.Array{Shape: []int{len(lines), len([]rune(lines[0]))}}
	for _, line := range lines {
		a.Items = append(a.Items, chars(line)...)
	}
	if len(a.Items) == 0 {
		a.Items = chars(" ")
	}
	return a
}

// wrongArrays are arrays that are not right.
func wrongArrays() []api.Array {
	return []api.Array{
		{}, {Shape: []int{2}, Items: chars("F")}, {Shape: []int{1, 2}, Items: chars("F")}, {Shape: []int{0}}, {Shape: []int{0, 0}}, {Shape: []int{-1}, Items: chars("F")}, {Shape: []int{-1, -1}, Items: chars("F")},
		{Items: []api.Item{{Kind: 9, Char: 'F'}}}, {Items: []api.Item{{Kind: api.Char, Char: 0xD800}}}, {Items: []api.Item{{Kind: api.Char, Char: -1}}}, {Items: []api.Item{{Kind: api.Box}}},
		{Shape: []int{1}, Items: []api.Item{boxed(api.Array{Items: chars("F")})}}, {Shape: []int{1}, Items: []api.Item{boxed(api.Array{Shape: []int{1}})}}, {Shape: make([]int, 9), Items: chars("F")},
	}
}

// from asks for the function that an array defines.
func from(t *testing.T, a api.Array, want api.Fn) {
	t.Helper()
	before := array.Copy(a)
	if got, e, at := define.FromArray(a); e != api.OK || at != 0 || !alike(got, want) {
		t.Errorf("%+v: %+v %v %v, want %+v", a, got, e, at, want)
	}
	if !array.Match(a, before) {
		t.Errorf("%+v is changed", before)
	}
}

// fromNot asks for the error of an array, and its place.
func fromNot(t *testing.T, a api.Array, want api.Errno, place int) {
	t.Helper()
	if got, e, at := define.FromArray(a); e != want || at != place || !alike(got, api.Fn{}) {
		t.Errorf("%+v: %+v %v %v, want %v %v", a, got, e, at, want, place)
	}
}

// canon asks for a function's lines as a matrix.
func canon(t *testing.T, f api.Fn, want ...string) {
	t.Helper()
	if got, e := define.Canon(f); e != api.OK || !array.Match(got, matrix(want...)) {
		t.Errorf("%q: %+v %v, want %q", f.Lines, got, e, want)
	}
}

// canonNot asks for the error of a function.
func canonNot(t *testing.T, f api.Fn, want api.Errno) {
	t.Helper()
	if got, e := define.Canon(f); e != want || len(got.Shape) != 0 || len(got.Items) != 0 {
		t.Errorf("%d lines: %v, want %v", len(f.Lines), e, want)
	}
}

// elements are where those of a list lie, those of the spare room too.
func elements[T any](l []T) []any {
	var out []any
	l = l[:cap(l)]
	for i := range l {
		out = append(out, &l[i])
	}
	return out
}

func places(f api.Fn) []any {
	return slices.Concat(elements(f.Locals), elements(f.Labels), elements(f.At), elements(f.Lines))
}

// apart fails if two lists of what was handed in and answered lie in one another.
func apart(t *testing.T, what string, lists ...[]any) {
	t.Helper()
	seen := map[any]bool{}
	for _, p := range slices.Concat(lists...) {
		if seen[p] {
			t.Fatal(what, "has a list that lies in another one")
		}
		seen[p] = true
	}
}
