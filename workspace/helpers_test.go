package workspace_test

import (
	"strings"
	"testing"

	"glyph/api"
	"glyph/array"
	"glyph/machine"
	"glyph/rat"
	"glyph/workspace"
)

// dice is a row of numbers that is the same at every run.
type dice uint64

func (d *dice) next(n int) int {
	*d ^= *d << 13
	*d ^= *d >> 7
	*d ^= *d << 17
	return int(uint64(*d) >> 1 % uint64(n))
}

// plenty is more steps than most lines of the tests take.
const plenty = 10000

// environment is the lines that a new workspace has.
const environment = "⎕IO←1\n⎕CT←0\n⎕PP←10\n"

// of is a machine that has done lines, and defined functions: a text with several lines is one.
func of(t *testing.T, lines ...string) *machine.Machine {
	t.Helper()
	m := machine.New()
	for _, line := range lines {
		if strings.HasPrefix(line, "∇") {
			if name, e, at := m.Define(strings.Split(line[len("∇"):], "\n")...); e != api.OK {
				t.Fatal(line, name, e, at)
			}
			continue
		}
		if o := m.Do(line, plenty); o.Errno != api.OK {
			t.Fatal(line, o)
		}
	}
	return m
}

// saves asks for the text that Save tells.
func saves(t *testing.T, m *machine.Machine, want string) {
	t.Helper()
	if got, e := workspace.Save(m); e != api.OK || got != want {
		t.Errorf("%q %d, want %q", got, e, want)
	}
}

// refuses asks for the error and the line that Load tells.
func refuses(t *testing.T, text string, e api.Errno, line int) {
	t.Helper()
	if m, got, at := workspace.Load(text); m != nil || got != e || at != line {
		t.Errorf("%.40q: %d at %d, want %d at %d", text, got, at, e, line)
	}
}

// loads is the machine of a text that Load takes.
func loads(t *testing.T, text string) *machine.Machine {
	t.Helper()
	m, e, at := workspace.Load(text)
	if m == nil || e != api.OK || at != 0 {
		t.Fatalf("%.40q: %d at %d", text, e, at)
	}
	return m
}

// shows asks for what a line shows, its lines with | between.
func shows(t *testing.T, m *machine.Machine, line, want string) {
	t.Helper()
	if o := m.Do(line, plenty); o.Errno != api.OK || strings.Join(o.Shown, "|") != want {
		t.Errorf("%s: %+v, want %s", line, o, want)
	}
}

// wrongArrays are arrays that are not right.
func wrongArrays() []api.Array {
	return []api.Array{
		{}, {Shape: []int{2}, Items: array.Ints(1).Items}, {Shape: []int{0}}, {Shape: []int{-1}, Items: array.Ints(1).Items}, {Items: []api.Item{{Kind: 9}}}, {Items: []api.Item{{Kind: api.Char, Char: 0xD800}}}, {Items: []api.Item{{Kind: api.Number}}}, {Items: []api.Item{{Kind: api.Box}}},
		{Items: []api.Item{{Kind: api.Char, Char: '\n', Num: rat.OfInt(1)}}},
	}
}

// randomArray is a right array whose levels are at most so many; it has no line feed, and of empty ones the item is a type.
func randomArray(d *dice, levels int) api.Array {
	shape := make([]int, []int{0, 0, 1, 1, 1, 2, 3}[d.next(7)])
	size := 1
	for i := range shape {
		shape[i] = []int{0, 1, 1, 2, 2, 3}[d.next(6)]
		size *= shape[i]
	}
	var items []api.Item
	for range max(size, 1) {
		items = append(items, randomItem(d, levels))
	}
	a, e := array.Make(shape, items...)
	if e != api.OK {
		panic("an array that is none")
	}
	return a
}

func randomItem(d *dice, levels int) api.Item {
	switch d.next(4) {
	case 0:
		characters := []rune{'a', '\'', ' ', '⍝', '⋄', '∇', ')', 0, '\r', '\t', 0x10FFFF, 0xFFFD}
		return array.Enclose(array.Char(characters[d.next(len(characters))]))
	case 1:
		if levels > 1 {
			return array.Enclose(randomArray(d, levels-1))
		}
	}
	limbs := []uint32{uint32(d.next(100))}
	if d.next(9) == 0 {
		limbs = append(limbs, uint32(d.next(1<<30)), 1)
	}
	r, e := rat.Make(d.next(2) == 0, limbs, []uint32{uint32(1 + d.next(3))})
	if e != api.OK {
		panic("a number that is none")
	}
	return array.Enclose(array.Rat(r))
}
