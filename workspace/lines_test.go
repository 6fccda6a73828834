package workspace_test

import (
	"slices"
	"strings"
	"testing"

	"glyph/api"
	"glyph/array"
	"glyph/define"
	"glyph/machine"
	"glyph/rat"
	"glyph/workspace"
)

// value is what a machine's expression is.
func value(t *testing.T, expression string) api.Array {
	t.Helper()
	b, _ := of(t, "A←"+expression).Table().Get("A")
	return b.Array
}

func TestVariable(t *testing.T) { // P16.1
	for expression, want := range map[string]string{
		"1 2": "1 2", "5": "5", "¯1r3": "¯1r3", ",5": ",5", "'a'": "'a'", "'it''s'": "'i' 't' '''' 's'", "⍳0": "0⍴0", "''": "0⍴' '", "2 2⍴⍳4": "2 2⍴1 2 3 4", "(1 2)'ab'": "(1 2) ('a' 'b')", "⊂1 2": "⊂(1 2)", ",⊂1 2": ",⊂(1 2)", "0⍴⊂1 2": "0⍴⊂(0 0)", "1 1⍴⊂1 2": "1 1⍴⊂(1 2)",
	} {
		for _, name := range []string{"A", "∆x_1", "⍺", "⍵", "_", strings.Repeat("N", api.MaxName)} {
			if got, e := workspace.Variable(name, value(t, expression)); e != api.OK || got != name+"←"+want {
				t.Errorf("%s: %q %d, want %q", expression, got, e, want)
			}
		}
	}
}

func TestWrongVariables(t *testing.T) { // P16.1, P1, P2
	names := []string{"", "1", "1A", "A B", " A", "A ", "⎕IO", "⎕", "∇", "⍺⍵", "⍵1", "\xff", "A\xff", "A\n", "é", strings.Repeat("N", api.MaxName+1)}
	feed := array.Text("a\nb")
	long := array.Make // an array whose literal is far too long
	big, e := long([]int{api.MaxItems}, array.Items(array.Int(7))...)
	if e != api.OK {
		t.Fatal(e)
	}
	refused := func(name string, a api.Array, want api.Errno) {
		t.Helper()
		if got, e := workspace.Variable(name, a); got != "" || e != want {
			t.Errorf("%q: %q %d, want %d", name, got, e, want)
		}
	}
	for _, name := range names {
		refused(name, array.Int(1), api.ErrName)
		refused(name, api.Array{}, api.ErrName)
		refused(name, feed, api.ErrName)
	}
	for _, a := range wrongArrays() {
		refused("A", a, api.ErrForm)
	}
	refused("A", feed, api.ErrForm)
	refused("A", array.Char('\n'), api.ErrForm)
	nested, _ := array.Make([]int{2}, array.Enclose(feed), array.Enclose(big))
	refused("A", nested, api.ErrForm) // ahead of the Limit
	refused("A", big, api.Limit)
	// Other characters that are no sign may stand there.
	if got, e := workspace.Variable("A", array.Text("\r\x00")); e != api.OK || got != "A←'\r' '\x00'" {
		t.Errorf("%q %d", got, e)
	}
}

// TestLongVariables: a line has just MaxLine bytes, or one more.
func TestLongVariables(t *testing.T) { // P16.1, P5
	for _, name := range []string{"A", "AB", "∆", "⍵"} {
		for _, length := range []int{api.MaxLine - 1, api.MaxLine, api.MaxLine + 1, api.MaxLine + 2, api.MaxLine + 100} {
			// Its literal is numbers of one digit, a blank ahead of each but the first, which has one or two.
			bytes := length - len(name) - len("←")
			numbers := []int{10}[:0]
			for rest := bytes; rest > 0; rest -= 2 {
				numbers = append(numbers, 1)
			}
			if bytes%2 == 0 {
				numbers[0] = 10
			}
			a := array.Ints(numbers...)
			got, e := workspace.Variable(name, a)
			if length > api.MaxLine {
				if got != "" || e != api.Limit {
					t.Error(name, length, len(got), e)
				}
				continue
			}
			if len(got) != length || e != api.OK {
				t.Error(name, length, len(got), e)
			}
			m := machine.New()
			m.Do(got, plenty)
			if b, _ := m.Table().Get(name); !array.Match(b.Array, a) {
				t.Error(name, length, b)
			}
		}
	}
	greatest, e := rat.Make(true, slices.Repeat([]uint32{1<<32 - 1}, api.MaxLimbs), slices.Repeat([]uint32{1<<32 - 2}, api.MaxLimbs))
	if e != api.OK {
		t.Fatal(e)
	}
	a := array.Rat(greatest)
	line, e := workspace.Variable("A", a)
	m := machine.New()
	m.Do(line, plenty)
	if b, _ := m.Table().Get("A"); e != api.OK || !array.Match(b.Array, a) {
		t.Error(e, len(line))
	}
}

// TestVariablesComeBack: the line of a variable, done, makes it.
func TestVariablesComeBack(t *testing.T) { // P16.1, P16.3, E6
	d := dice(88172645463325252)
	told := 0
	for range 4000 {
		a := randomArray(&d, 4)
		before := array.Copy(a)
		line, e := workspace.Variable("V", a)
		if !array.Match(a, before) {
			t.Fatal("what was handed in is changed")
		}
		if e == api.Limit {
			continue
		}
		m := machine.New()
		o := m.Do(line, plenty)
		if b, _ := m.Table().Get("V"); e != api.OK || o.Errno != api.OK || len(o.Shown) > 0 || !array.Match(b.Array, a) {
			t.Fatalf("%q: %d %+v", line, e, o)
		}
		told++
	}
	if told < 3000 {
		t.Error("too few variables are told:", told)
	}
}

// made is a function of lines.
func made(t *testing.T, lines ...string) api.Fn {
	t.Helper()
	f, e, at := define.Make(lines...)
	if e != api.OK {
		t.Fatal(lines, e, at)
	}
	return f
}

// braces is a dfn with a name.
func braces(name, text string) api.Fn {
	return api.Fn{Name: name, Lines: []string{text}, Braces: true}
}

func TestFunction(t *testing.T) { // P16.1
	for _, c := range []struct {
		f    api.Fn
		want []string
	}{
		{made(t, "F"), []string{"∇F", "∇"}}, {made(t, "R←A F B;X;Y", "L:X←A", "", " R←X+B ⍝ sum "), []string{"∇R←A F B;X;Y", "L:X←A", "", " R←X+B ⍝ sum ", "∇"}}, {made(t, " F X ", "\t1"), []string{"∇ F X ", "\t1", "∇"}}, {made(t, "F ⍝ ∇", "∇∇", "∇ ⍝", "∇F", ")OFF", "1\t∇"), []string{"∇F ⍝ ∇", "∇∇", "∇ ⍝", "∇F", ")OFF", "1\t∇", "∇"}},
		{braces("D", "{⍵+1}"), []string{"D←{⍵+1}"}}, {braces("∆", "{}"), []string{"∆←{}"}}, {braces("⍵", " { {⍵} ⍵ ⋄ '}' } "), []string{"⍵← { {⍵} ⍵ ⋄ '}' } "}}, {braces("D", "{∇}"), []string{"D←{∇}"}},
	} {
		if got, e := workspace.Function(c.f); e != api.OK || !slices.Equal(got, c.want) {
			t.Errorf("%q: %q %d", c.f.Lines, got, e)
		}
	}
	long := made(t, "F"+strings.Repeat(" ", api.MaxLine-1), strings.Repeat("⍝", api.MaxLine/3))
	if got, e := workspace.Function(long); e != api.OK || len(got) != 3 || got[0] != "∇"+long.Lines[0] || got[1] != long.Lines[1] {
		t.Error(len(got), e)
	}
	most := make([]string, api.MaxLines)
	most[0] = "F"
	if got, e := workspace.Function(made(t, most...)); e != api.OK || len(got) != api.MaxLines+1 {
		t.Error(len(got), e)
	}
}

func TestWrongFunctions(t *testing.T) { // P16.1, P1, P2
	f := made(t, "R←A F B;X", "L:1", "2")
	changed := func(change func(*api.Fn)) api.Fn {
		g := f
		g.Locals, g.Labels, g.At, g.Lines = slices.Clone(f.Locals), slices.Clone(f.Labels), slices.Clone(f.At), slices.Clone(f.Lines)
		change(&g)
		return g
	}
	for i, g := range []api.Fn{
		{}, {Name: "F"}, {Name: "F", Lines: []string{}}, {Name: "F", Lines: []string{""}}, {Name: "F", Lines: []string{" \t", "1"}}, {Name: "F", Lines: []string{"1"}}, {Name: "F", Lines: []string{"F F"}}, {Name: "F", Lines: []string{"F", "'"}}, {Name: "F", Lines: []string{"F", "\xff"}}, {Name: "F", Lines: []string{"∇"}}, {Name: "F", Lines: []string{"F\n"}}, {Name: "F", Lines: slices.Repeat([]string{"F"}, api.MaxLines+1)}, {Lines: []string{"{⍵}"}},
		changed(func(g *api.Fn) { g.Name = "G" }), changed(func(g *api.Fn) { g.Name = "" }), changed(func(g *api.Fn) { g.Result = "" }), changed(func(g *api.Fn) { g.Left = "C" }), changed(func(g *api.Fn) { g.Right = "" }), changed(func(g *api.Fn) { g.Locals = nil }), changed(func(g *api.Fn) { g.Locals[0] = "Y" }), changed(func(g *api.Fn) { g.Labels[0] = "M" }), changed(func(g *api.Fn) { g.Labels = nil }), changed(func(g *api.Fn) { g.At[0] = 2 }), changed(func(g *api.Fn) { g.At = nil }), changed(func(g *api.Fn) { g.Lines[1] = "1" }), changed(func(g *api.Fn) { g.Lines = nil }), changed(func(g *api.Fn) { g.Lines[0] = "R←A G B;X" }),
		made(t, "F", "∇"), made(t, "F", "1", " \t∇ "), made(t, "F", "'a\nb'"), made(t, "F", "⍝ a\nb"), made(t, "F ⍝\n"), made(t, "F", "⍝\n∇"), made(t, "F", "\t∇", "⍝\n"),
		braces("D", ""), braces("D", "{"), braces("D", "{⍵}}"), braces("D", "1"), braces("D", "{'}"), braces("D", "{\xff}"), braces("D", "{⍵} {⍵}"), braces("D", strings.Repeat(" ", api.MaxLine)+"{}"), braces("D", "{'\n'}"), braces("D", "{}⍝\n"),
		{Name: "D", Braces: true}, {Name: "D", Braces: true, Lines: []string{"{⍵}", "{⍵}"}}, {Name: "D", Braces: true, Lines: []string{"D", "1"}},
		changed(func(g *api.Fn) { g.Braces = true }),
	} {
		if got, e := workspace.Function(g); len(got) > 0 || e != api.ErrForm {
			t.Errorf("%d: %q: %q %d", i, g.Lines, got, e)
		}
	}
	if got, e := workspace.Function(f); e != api.OK || len(got) != 4 {
		t.Error(got, e)
	}
	for _, name := range []string{"", "1", "⎕IO", "∇", "D E", "{}", "\xff", "D\n", strings.Repeat("D", api.MaxName+1)} {
		for _, g := range []api.Fn{braces(name, "{⍵}"), braces(name, "{"), {Name: name, Braces: true}} {
			if got, e := workspace.Function(g); len(got) > 0 || e != api.ErrName {
				t.Errorf("%q: %q %d", name, got, e)
			}
		}
	}
	for extra := range 4 { // D←{} and blanks: just MaxLine bytes, and more
		g := braces("D", "{"+strings.Repeat(" ", api.MaxLine-len("D←{}")+extra)+"}")
		got, e := workspace.Function(g)
		if extra == 0 && (e != api.OK || len(got) != 1 || len(got[0]) != api.MaxLine) || extra > 0 && (e != api.Limit || len(got) > 0) {
			t.Error(extra, len(got), e)
		}
	}
}

// TestFunctionApart: what is handed in stays, and what is answered is the caller's.
func TestFunctionApart(t *testing.T) { // P3
	lines := []string{"F", "1", "2", "spare", "spare"}
	f := made(t, lines[:3]...)
	f.Lines = lines[:3]
	for range 2 {
		got, e := workspace.Function(f)
		if e != api.OK || !slices.Equal(got, []string{"∇F", "1", "2", "∇"}) {
			t.Fatal(got, e)
		}
		for i := range got {
			got[i] = "changed"
		}
		got = append(got, "more")
		if !slices.Equal(lines, []string{"F", "1", "2", "spare", "spare"}) {
			t.Error(lines, got)
		}
	}
}
