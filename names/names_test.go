package names_test

import (
	"math"
	"slices"
	"strings"
	"testing"

	"glyph/api"
	"glyph/array"
	"glyph/names"
)

func TestIsName(t *testing.T) { // P11.1
	most, wide := strings.Repeat("A", api.MaxName), strings.Repeat("∆", api.MaxName)
	for _, s := range []string{"A", "Z", "a", "z", "_", "∆", "A1", "_0", "∆9z", "Foo_∆2", "r2", most, wide, most[1:] + "9", "⍺", "⍵"} {
		if !names.IsName(s) {
			t.Error(s)
		}
	}
	for _, s := range []string{
		"", " ", "1", "1A", "9_", "A ", " A", "A B", "A\t", "A\n", "A\x00", "A.B", "A-", "⎕", "⎕IO", "∇", "⍺⍵", "⍺⍺", "⍺1", "⍵A", "A⍵", "A⍺", "é", "Aé", "Δ", "⍙", "¯1", "'A'", "A'", "٣", "A٣", "Ａ",
		most + "A", most + "1", wide + "∆", wide + "_", strings.Repeat("z", 1<<20),
		"\xff", "A\xff", "\xffA", "A\xffA", "\xe2\x88", "A\xe2\x88", "∆"[1:], "\xe2\x8d", "⍺\xff", "\uFFFD", "A\uFFFD", "\xc1\x81", most + "\xff",
	} {
		if names.IsName(s) {
			t.Errorf("%q", s)
		}
	}
}

func TestIsNameOfEachCharacter(t *testing.T) { // P11.1
	first := "ABCDEFGHIJKLMNOPQRSTUVWXYZabcdefghijklmnopqrstuvwxyz_" + string(rune(0x2206))
	alone := string([]rune{0x237A, 0x2375})
	for c := rune(0); c <= 0x10FFFF; c++ {
		s := string(c)
		if c >= 0xD800 && c < 0xE000 {
			continue
		}
		if names.IsName(s) != (strings.Contains(first, s) || strings.Contains(alone, s)) {
			t.Error(c, "alone")
		}
		if names.IsName("A"+s) != (strings.Contains(first, s) || strings.Contains("0123456789", s)) {
			t.Error(c, "behind another one")
		}
	}
}

func TestNil(t *testing.T) { // P1, P11.1 to P11.4
	var n *names.Table
	says(t, "SetVar", n.SetVar("1", api.Array{}), api.ErrNil)
	says(t, "SetFn", n.SetFn(api.Fn{}), api.ErrNil)
	says(t, "SetLabel", n.SetLabel("", -1), api.ErrNil)
	says(t, "Push", n.Push("1"), api.ErrNil)
	says(t, "Pop", n.Pop(), api.ErrNil)
	hasNot(t, n, "A")
	outside(t, n, "A", names.Bound{})
	if n.Erase("A") != 0 || n.Depth() != 0 || len(n.Locals(0)) != 0 || len(n.Locals(-1)) != 0 || len(n.List(api.Variable, api.Free)) != 0 || n.Fork() != nil {
		t.Error("a nil table has something")
	}
}

func TestNew(t *testing.T) { // P11.1
	n := names.New()
	if n == nil || n.Depth() != 0 || len(n.Locals(0)) != 0 || len(n.List(api.Free, api.Label, api.Variable, api.Function)) != 0 || n.Erase("A") != 0 {
		t.Error("not empty")
	}
	for _, name := range []string{"A", "⍺", "⍵", "", "1", "\xff"} {
		hasNot(t, n, name)
		outside(t, n, name, names.Bound{})
	}
	says(t, "SetVar", n.SetVar("A", array.Int(1)), api.OK)
	hasNot(t, names.New(), "A") // P6
}

func TestSet(t *testing.T) { // P11.1, P11.2
	n := names.New()
	most := strings.Repeat("∆", api.MaxName)
	for _, name := range []string{"A", "⍺", "⍵", "_", most} {
		says(t, name, n.SetVar(name, array.Int(1)), api.OK)
		has(t, n, name, variable(array.Int(1)))
		outside(t, n, name, variable(array.Int(1)))
		says(t, name, n.SetVar(name, nested()), api.OK)
		has(t, n, name, variable(nested()))
	}
	for _, a := range []api.Array{array.Text(""), array.Ints(), array.Char('x'), {Shape: []int{}, Items: array.Int(5).Items}} {
		says(t, "a value", n.SetVar("A", a), api.OK)
		has(t, n, "A", variable(a))
	}
	for _, f := range []api.Fn{{Name: "F"}, rich("F"), {Name: "F", Lines: []string{"\xff"}}, {Name: "F", Braces: true}} {
		says(t, "a function", n.SetFn(f), api.OK)
		has(t, n, "F", function(f))
		outside(t, n, "F", function(f))
	}
	says(t, "a name that is a variable", n.SetFn(rich("⍺")), api.Domain)
	for _, line := range []int{0, 1, 7, math.MaxInt} {
		says(t, "a label", n.SetLabel("L", line), api.OK)
		has(t, n, "L", label(line))
		outside(t, n, "L", label(line))
	}
	if n.Class("A") != api.Variable || n.Class("F") != api.Function || n.Class("L") != api.Label || n.Class("NONE") != api.Free || n.Class("") != api.Free {
		t.Error("classes")
	}
}

func TestNamesThatAreNone(t *testing.T) { // P11.2, P11.3, P2
	n := names.New()
	for _, name := range []string{"", "1", "1A", "A B", "⍺⍵", "⎕IO", "\xff", "A\xff", strings.Repeat("A", api.MaxName+1)} {
		says(t, name, n.SetVar(name, array.Int(1)), api.ErrName)
		says(t, name, n.SetVar(name, api.Array{}), api.ErrName)
		says(t, name, n.SetFn(rich(name)), api.ErrName)
		says(t, name, n.SetLabel(name, 1), api.ErrName)
		says(t, name, n.SetLabel(name, -1), api.ErrName)
		says(t, name, n.Push("A", name, "B"), api.ErrName)
		if n.Erase(name) != 0 || n.Depth() != 0 {
			t.Error(name)
		}
		hasNot(t, n, name)
	}
	if len(n.List(api.Label, api.Variable, api.Function)) != 0 {
		t.Error("something changed")
	}
}

func TestSetErrors(t *testing.T) { // P11.2, P2
	n := names.New()
	n.SetVar("V", array.Int(1))
	n.SetFn(rich("F"))
	n.SetLabel("L", 3)
	for _, a := range wrongArrays() {
		for _, name := range []string{"V", "F", "L", "NEW"} { // ahead of Domain
			says(t, name, n.SetVar(name, a), api.ErrForm)
		}
	}
	says(t, "SetVar F", n.SetVar("F", array.Int(2)), api.Domain)
	says(t, "SetVar L", n.SetVar("L", array.Int(2)), api.Domain)
	says(t, "SetFn V", n.SetFn(rich("V")), api.Domain)
	says(t, "SetFn L", n.SetFn(rich("L")), api.Domain)
	says(t, "SetLabel V", n.SetLabel("V", 2), api.Domain)
	says(t, "SetLabel F", n.SetLabel("F", 0), api.Domain)
	for _, line := range []int{-1, math.MinInt} {
		for _, name := range []string{"V", "F", "L", "NEW"} {
			says(t, name, n.SetLabel(name, line), api.ErrRange)
		}
	}
	has(t, n, "V", variable(array.Int(1)))
	has(t, n, "F", function(rich("F")))
	has(t, n, "L", label(3))
	hasNot(t, n, "NEW")
	n.Push("V", "F", "L") // now they are none of these
	says(t, "SetFn V", n.SetFn(rich("V")), api.OK)
	says(t, "SetLabel F", n.SetLabel("F", 0), api.OK)
	says(t, "SetVar L", n.SetVar("L", nested()), api.OK)
	says(t, "SetVar V", n.SetVar("V", nested()), api.Domain)
	n.Pop()
	n.Erase("V")
	says(t, "SetFn V", n.SetFn(rich("V")), api.OK)
	has(t, n, "V", function(rich("V")))
}

// filled is a table in which so many names have something: N0 and so on, and in two frames N0 to N9, L0 to L9 and F0 to F9.
func filled(t *testing.T, count int) *names.Table {
	t.Helper()
	n := names.New()
	for i := range count - 40 {
		says(t, "fill", n.SetVar(numbered("N", i), array.Int(i)), api.OK)
	}
	for range 2 {
		says(t, "fill", n.Push("N0", "N1", "N2", "N3", "N4", "L0", "L1", "L2", "L3", "L4", "F0", "F1", "F2", "F3", "F4", "F5", "F6", "F7", "F8", "F9", "FREE"), api.OK)
		for i := range 5 {
			says(t, "fill", n.SetVar(numbered("N", i), array.Int(-i)), api.OK)
			says(t, "fill", n.SetLabel(numbered("L", i), i), api.OK)
		}
		for i := range 10 {
			says(t, "fill", n.SetFn(api.Fn{Name: numbered("F", i)}), api.OK)
		}
	}
	return n
}

func TestFull(t *testing.T) { // P11.2, P11.3, P2, P5
	n := filled(t, api.MaxNames)
	for _, name := range []string{"NEW", "FREE"} { // outside, and in a frame
		says(t, "SetVar", n.SetVar(name, array.Int(1)), api.ErrFull)
		says(t, "SetFn", n.SetFn(rich(name)), api.ErrFull)
		says(t, "SetLabel", n.SetLabel(name, 1), api.ErrFull)
		says(t, "SetVar", n.SetVar(name, api.Array{}), api.ErrForm)
		says(t, "SetLabel", n.SetLabel(name, -1), api.ErrRange)
		hasNot(t, n, name)
	}
	says(t, "Domain is ahead", n.SetVar("F1", array.Int(1)), api.Domain)
	says(t, "ErrName is ahead", n.SetVar("1", array.Int(1)), api.ErrName)
	says(t, "again, in a frame", n.SetVar("N0", array.Int(8)), api.OK)
	says(t, "again, outside", n.SetVar("N400", array.Int(9)), api.OK)
	says(t, "again", n.SetFn(rich("F9")), api.OK)
	says(t, "again", n.SetLabel("L0", 9), api.OK)
	says(t, "a frame has nothing", n.Push("N0", "NEW", "N400"), api.OK)
	for _, name := range []string{"N0", "NEW", "N400"} {
		says(t, "what is shadowed counts", n.SetVar(name, array.Int(1)), api.ErrFull)
	}
	says(t, "Pop", n.Pop(), api.OK)
	has(t, n, "N0", variable(array.Int(8)))
	if n.Erase("N400") != 1 {
		t.Error("Erase")
	}
	says(t, "there is room for one", n.SetFn(rich("NEW")), api.OK)
	says(t, "and for no more", n.SetVar("FREE", array.Int(1)), api.ErrFull)
	if n.Erase("FREE", "N400", "1") != 0 {
		t.Error("Erase")
	}
	says(t, "still none", n.SetVar("FREE", array.Int(1)), api.ErrFull)
	f := n.Fork()
	says(t, "a Fork is as full", f.SetVar("FREE", array.Int(1)), api.ErrFull)
	says(t, "Pop", n.Pop(), api.OK)
	for i := range 20 {
		says(t, "what a frame had is free", n.SetVar(numbered("M", i), array.Int(i)), api.OK)
	}
	says(t, "and no more", n.SetVar("M20", array.Int(1)), api.ErrFull)
	says(t, "the Fork is as full", f.SetVar("FREE", array.Int(1)), api.ErrFull)
}

func TestJustFull(t *testing.T) { // P11.2
	n := names.New()
	for i := range api.MaxNames {
		says(t, "outside alone", n.SetFn(api.Fn{Name: numbered("N", i)}), api.OK)
	}
	says(t, "one more", n.SetFn(api.Fn{Name: "N"}), api.ErrFull)
	if l := n.List(api.Function); len(l) != api.MaxNames {
		t.Error(len(l))
	}
}

func TestPushAndPop(t *testing.T) { // P11.3, P11.5
	n := names.New()
	says(t, "Pop", n.Pop(), api.ErrNone)
	says(t, "SetVar", n.SetVar("A", array.Int(1)), api.OK)
	says(t, "Push", n.Push("A", "B"), api.OK)
	hasNot(t, n, "A")
	outside(t, n, "A", variable(array.Int(1)))
	says(t, "SetVar", n.SetVar("A", array.Int(2)), api.OK)
	says(t, "SetVar", n.SetVar("C", array.Int(3)), api.OK) // it is outside
	has(t, n, "A", variable(array.Int(2)))
	outside(t, n, "A", variable(array.Int(1)))
	outside(t, n, "C", variable(array.Int(3)))
	outside(t, n, "B", names.Bound{})
	says(t, "Push", n.Push("B"), api.OK)
	has(t, n, "A", variable(array.Int(2)))
	says(t, "SetLabel", n.SetLabel("B", 4), api.OK)
	says(t, "SetVar", n.SetVar("A", array.Int(5)), api.OK) // in the frame below
	if n.Depth() != 2 || !slices.Equal(n.Locals(0), []string{"A", "B"}) || !slices.Equal(n.Locals(1), []string{"B"}) {
		t.Error(n.Depth(), n.Locals(0), n.Locals(1))
	}
	says(t, "Pop", n.Pop(), api.OK)
	hasNot(t, n, "B")
	has(t, n, "A", variable(array.Int(5)))
	says(t, "Pop", n.Pop(), api.OK)
	has(t, n, "A", variable(array.Int(1)))
	has(t, n, "C", variable(array.Int(3)))
	says(t, "Pop", n.Pop(), api.ErrNone)
	if n.Depth() != 0 || len(n.Locals(0)) != 0 {
		t.Error("a frame is left")
	}
	says(t, "Push", n.Push("A"), api.OK) // nothing is left of an earlier one
	hasNot(t, n, "A")
}

func TestLocals(t *testing.T) { // P11.3
	n := names.New()
	cases := []struct{ in, want []string }{
		{nil, nil}, {[]string{"Z", "A", "⍵", "⍺"}, []string{"Z", "A", "⍵", "⍺"}}, {[]string{"B", "A", "B", "B", "C", "A"}, []string{"B", "A", "C"}}, {[]string{"∆"}, []string{"∆"}},
	}
	for i, c := range cases {
		says(t, "Push", n.Push(c.in...), api.OK)
		if got := n.Locals(i); !slices.Equal(got, c.want) || n.Depth() != i+1 {
			t.Error(c, got, n.Depth())
		}
	}
	for _, i := range []int{-1, len(cases), len(cases) + 1, math.MinInt, math.MaxInt} {
		if got := n.Locals(i); len(got) != 0 {
			t.Error(i, got)
		}
	}
	n.SetVar("B", array.Int(1)) // a name that stands twice is one
	if n.Erase("B") != 1 || n.Class("B") != api.Free || len(n.List(api.Variable)) != 0 {
		t.Error("twice")
	}
}

func TestLongPush(t *testing.T) { // P11.3, P2
	var l []string
	for i := range 2 * api.MaxLocals {
		l = append(l, numbered("N", i))
	}
	n := names.New()
	says(t, "one more", n.Push(append(slices.Clone(l), "A")...), api.ErrLong)
	says(t, "many", n.Push(slices.Repeat([]string{"A"}, 2*api.MaxLocals+1)...), api.ErrLong)
	says(t, "ErrName is ahead", n.Push(append(slices.Clone(l), "1")...), api.ErrName)
	if n.Depth() != 0 {
		t.Error("something changed")
	}
	says(t, "just as many", n.Push(l...), api.OK)
	if !slices.Equal(n.Locals(0), l) {
		t.Error(n.Locals(0))
	}
}

func TestManyFrames(t *testing.T) { // P11.3, P2
	n := names.New()
	n.SetVar("A", array.Int(-1))
	for i := range api.MaxFrames {
		says(t, "Push", n.Push("A"), api.OK)
		says(t, "SetVar", n.SetVar("A", array.Int(i)), api.OK)
	}
	says(t, "one more", n.Push("A"), api.ErrFull)
	says(t, "one more", n.Push(), api.ErrFull)
	says(t, "ErrLong is ahead", n.Push(slices.Repeat([]string{"A"}, 2*api.MaxLocals+1)...), api.ErrLong)
	says(t, "ErrName is ahead", n.Push("1"), api.ErrName)
	for i := api.MaxFrames - 1; i >= 0; i-- {
		if n.Depth() != i+1 {
			t.Error(i, n.Depth())
		}
		has(t, n, "A", variable(array.Int(i)))
		outside(t, n, "A", variable(array.Int(-1)))
		says(t, "Pop", n.Pop(), api.OK)
	}
	says(t, "Pop", n.Pop(), api.ErrNone)
	has(t, n, "A", variable(array.Int(-1)))
	says(t, "Push", n.Push("A"), api.OK)
}

func TestErase(t *testing.T) { // P11.3
	n := names.New()
	n.SetVar("A", array.Int(1))
	n.SetFn(rich("F"))
	n.SetLabel("L", 1)
	n.SetVar("B", array.Int(2))
	n.Push("A", "F")
	if n.Erase() != 0 || n.Erase("A", "F", "NONE", "", "1", "\xff") != 0 {
		t.Error("what has nothing now")
	}
	n.SetVar("A", array.Int(3))
	if got := n.Erase("A", "L", "A", "NONE", "L"); got != 2 {
		t.Error(got)
	}
	hasNot(t, n, "A")
	hasNot(t, n, "L")
	outside(t, n, "A", variable(array.Int(1)))
	outside(t, n, "L", names.Bound{})
	if !slices.Equal(n.Locals(0), []string{"A", "F"}) { // it is localised all the same
		t.Error(n.Locals(0))
	}
	says(t, "SetFn", n.SetFn(rich("A")), api.OK)
	outside(t, n, "A", variable(array.Int(1)))
	n.Pop()
	has(t, n, "A", variable(array.Int(1)))
	has(t, n, "F", function(rich("F")))
	if got := n.Erase("A", "F", "B"); got != 3 || len(n.List(api.Label, api.Variable, api.Function)) != 0 {
		t.Error(got)
	}
}

func TestList(t *testing.T) { // P11.4
	n := names.New()
	for _, name := range []string{"⍺", "∆", "b", "B", "A1", "_", "A", "AB", "a", "⍵", "Z", "A_"} {
		n.SetVar(name, array.Int(1))
	}
	n.SetFn(rich("F"))
	n.SetFn(rich("E"))
	n.SetLabel("M", 1)
	n.SetLabel("L", 2)
	variables := []string{"A", "A1", "AB", "A_", "B", "Z", "_", "a", "b", "∆", "⍵", "⍺"}
	cases := []struct {
		classes []api.Class
		want    []string
	}{
		{nil, nil}, {[]api.Class{}, nil}, {[]api.Class{api.Free}, nil}, {[]api.Class{-1, 4, math.MaxInt}, nil},
		{[]api.Class{api.Variable}, variables}, {[]api.Class{api.Variable, api.Variable}, variables}, {[]api.Class{api.Function}, []string{"E", "F"}}, {[]api.Class{api.Label, 99}, []string{"L", "M"}},
		{[]api.Class{api.Function, api.Label, api.Function}, []string{"E", "F", "L", "M"}},
	}
	for _, c := range cases {
		if got := n.List(c.classes...); !slices.Equal(got, c.want) {
			t.Error(c, got)
		}
	}
	n.Push("A", "F", "M", "NEW")
	n.SetVar("F", array.Int(1))
	n.SetLabel("A", 1)
	n.Push("F", "B", "A")
	n.SetFn(rich("B"))
	n.SetLabel("A", 2)
	if got := n.List(api.Variable); !slices.Equal(got, []string{"A1", "AB", "A_", "Z", "_", "a", "b", "∆", "⍵", "⍺"}) {
		t.Error(got)
	}
	if got := n.List(api.Function); !slices.Equal(got, []string{"B", "E"}) {
		t.Error(got)
	}
	if got := n.List(api.Label, api.Free); !slices.Equal(got, []string{"A", "L"}) { // each once
		t.Error(got)
	}
	n.Pop()
	n.Pop()
	if got := n.List(api.Variable); !slices.Equal(got, variables) {
		t.Error(got)
	}
}

func TestFork(t *testing.T) { // P11.4, P4
	n := names.New()
	n.SetVar("A", array.Int(1))
	n.SetFn(rich("F"))
	n.Push("A", "X")
	n.SetVar("A", nested())
	n.SetLabel("X", 5)
	f := n.Fork()
	same := func(n *names.Table) {
		t.Helper()
		if n.Depth() != 1 || !slices.Equal(n.Locals(0), []string{"A", "X"}) || !slices.Equal(n.List(api.Label, api.Variable, api.Function), []string{"A", "F", "X"}) {
			t.Error(n.Depth(), n.Locals(0), n.List(api.Label, api.Variable, api.Function))
		}
		has(t, n, "A", variable(nested()))
		has(t, n, "X", label(5))
		has(t, n, "F", function(rich("F")))
		outside(t, n, "A", variable(array.Int(1)))
	}
	change := func(n *names.Table) {
		n.SetVar("A", array.Int(7))
		n.Erase("X")
		n.SetFn(api.Fn{Name: "F"})
		n.Push("A", "NEW")
		n.SetVar("NEW", array.Int(1))
		n.Pop()
		n.Pop()
		n.SetVar("A", array.Int(8))
		n.SetVar("NEW", array.Int(1))
		n.Push("Z")
	}
	same(f)
	g, h := f.Fork(), f.Fork()
	change(f)
	same(n)
	same(g)
	change(n)
	same(g)
	same(h)
	n.Pop()
	g.Pop()
	has(t, g, "A", variable(array.Int(1)))
	has(t, n, "A", variable(array.Int(8)))
	same(h)
	e := names.New().Fork()
	if e == nil || e.Depth() != 0 {
		t.Error("of an empty one")
	}
	says(t, "SetVar", e.SetVar("A", array.Int(1)), api.OK)
}

func TestForksGrowApart(t *testing.T) { // P4
	n := names.New()
	for i := range 5 { // the list of frames has spare room by now
		n.Push(numbered("N", i))
	}
	f := n.Fork()
	n.Push("A")
	f.Push("B")
	n.SetVar("A", array.Int(1))
	if !slices.Equal(n.Locals(5), []string{"A"}) || !slices.Equal(f.Locals(5), []string{"B"}) {
		t.Error(n.Locals(5), f.Locals(5))
	}
	hasNot(t, f, "A")
}

func TestWhatIsHandedInAndAnswered(t *testing.T) { // P3
	a, f, l := nested(), rich("F"), []string{"A", "X"}
	n := names.New()
	n.Push(l...)
	n.SetVar("A", a)
	n.SetFn(f)
	if !array.Match(a, nested()) || !alike(function(f), function(rich("F"))) || !slices.Equal(l, []string{"A", "X"}) {
		t.Error("what was handed in is changed")
	}
	fork := n.Fork()
	value, _ := n.Get("A")
	again, _ := n.Get("A")
	fn, _ := n.Get("F")
	global, _ := n.Global("F")
	all := [][]any{placesOfArray(a), places(function(f)), elements(l), places(value), places(again), places(fn), places(global), elements(n.Locals(0)), elements(n.Locals(0)), elements(n.List(api.Variable)), elements(n.List(api.Variable))}
	other, _ := fork.Get("A")
	all = append(all, places(other))
	seen := map[any]bool{}
	for _, p := range slices.Concat(all...) {
		if seen[p] {
			t.Fatal("a list lies in another one")
		}
		seen[p] = true
	}
	for _, b := range []names.Bound{variable(a), function(f), value, fn, global} {
		spoil(b)
	}
	n.Locals(0)[0], n.List(api.Variable)[0], l[1] = "spoilt", "spoilt", "spoilt"
	for _, table := range []*names.Table{n, fork} {
		has(t, table, "A", variable(nested()))
		has(t, table, "F", function(rich("F")))
		if !slices.Equal(table.Locals(0), []string{"A", "X"}) || !slices.Equal(table.List(api.Variable), []string{"A"}) {
			t.Error(table.Locals(0), table.List(api.Variable))
		}
	}
}

func TestRoomBehindLists(t *testing.T) { // P3
	l := []string{"A", "B", "A", "C", "D"}
	classes := []api.Class{api.Variable, api.Label, api.Function}
	n := names.New()
	n.Push(l[:3]...)
	n.Erase(l[:2]...)
	n.List(classes[:1]...)
	f := api.Fn{Name: "F", Locals: l[:1], Labels: l[:2], Lines: l[:3], At: []int{1, 2, 3}[:1]}
	n.SetFn(f)
	a := api.Array{Shape: []int{1, 9}[:1], Items: array.Ints(1, 2).Items[:1]}
	n.SetVar("A", a)
	n.SetVar("A", array.Ints(4, 5))
	if !slices.Equal(l, []string{"A", "B", "A", "C", "D"}) || !slices.Equal(classes, []api.Class{api.Variable, api.Label, api.Function}) || !slices.Equal(a.Shape[:2], []int{1, 9}) || !array.Match(api.Array{Shape: []int{2}, Items: a.Items[:2]}, array.Ints(1, 2)) || !slices.Equal(f.At[:3], []int{1, 2, 3}) {
		t.Error("what was handed in is changed")
	}
}

func TestOtherNamesStay(t *testing.T) { // P11.6
	d := dice(88172645463325252)
	pool := []string{"A", "B", "C", "∆", "⍺", "⍵"}
	n := names.New()
	for i := range 2000 {
		if d.next(3) == 0 {
			n.Push(pool[d.next(6)], pool[d.next(6)])
		}
		if d.next(4) == 0 {
			n.Pop()
		}
		one := pool[d.next(6)]
		before := map[string]names.Bound{}
		for _, name := range pool {
			before[name], _ = n.Get(name)
		}
		says(t, one, n.SetVar(one, array.Int(i)), api.OK)
		for _, name := range pool {
			if got, _ := n.Get(name); name != one && !alike(got, before[name]) {
				t.Fatal(one, name, got)
			}
		}
		has(t, n, one, variable(array.Int(i)))
	}
}
