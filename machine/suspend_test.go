package machine_test

import (
	"slices"
	"strings"
	"testing"

	"glyph/api"
	"glyph/define"
	"glyph/machine"
)

// TestGroups: an error leaves the calls that go on suspended, the innermost first.
func TestGroups(t *testing.T) { // P13.1, P13.2, E4
	m := of(t, "R←F X;A\nA←X\nR←1+G¨X", "R←G X;B\nB←X\n'g' ⋄ R←{2+K ⍵}X", "R←K X\nR←X÷X-X", "D←{x←⍵ ⋄ 3×F x}", "A←1", "B←2")
	group := []machine.Where{in("K", 1, "R←X‸÷X-X"), in("{}", 1, "2+‸K ⍵"), in("G", 2, "R←‸{2+K ⍵}X"), in("F", 2, "R←1+‸G¨X")}
	fails(t, m, "5+F 7 8", api.Domain, group[0], "g")
	suspended(t, m, group)
	shows(t, m, "A ⋄ B ⋄ X ⋄ ⍵", "7 8|7|7|7")
	second := []machine.Where{in("K", 1, "R←X‸÷X-X"), in("{}", 1, "2+‸K ⍵"), in("G", 2, "R←‸{2+K ⍵}X"), in("F", 2, "R←1+‸G¨X"), in("D", 2, "3×‸F x")}
	fails(t, m, "D 9", api.Domain, second[0], "g")
	suspended(t, m, second, group)
	// An error of a line by itself leaves no group.
	errs(t, m, "1‸÷X-X", api.Domain)
	errs(t, m, "‸Z", api.Value)
	fails(t, m, "K 3", api.Domain, in("K", 1, "R←X‸÷X-X"))
	third := []machine.Where{in("K", 1, "R←X‸÷X-X")}
	suspended(t, m, third, second, group)
	if n := m.Reset(false); n != 1 {
		t.Error(n)
	}
	suspended(t, m, second, group)
	shows(t, m, "A B X", "9 9 9")
	if n := m.Reset(false); n != 5 {
		t.Error(n)
	}
	suspended(t, m, group)
	shows(t, m, "A B X", " 7 8  7 7")
	silent(t, m, "→")
	suspended(t, m)
	shows(t, m, "A B ⋄ ⎕NC 'X'", "1 2|0")
	silent(t, m, "→ ⋄ → ⋄ →")
}

// TestPlacesOfCalls: the place of a call is that of the function that is called, whatever is made of it.
func TestPlacesOfCalls(t *testing.T) { // P13.1, P13.2
	for _, marked := range []string{"‸F X", "1+‸F X", "X ‸F X", "X∘.‸F X", "X +.‸F X", "‸F¨X", "‸F/X,X", "‸F⍨X", "‸F\\X,X", "(F X)+‸F X", "+/[‸F X]X", "‸F/[1]X,X", "X[‸F X]", "X←‸F X", "→‸F X", "1+‸⍎'2+F X'", "'F X' ‸⎕EA 'Z'", "‸N", "1+‸N", "‸{F ⍵}X", "(⊂'F X')∘.‸⎕EA 'Z'", "1 F F/[0×‸F X]X", "‸F/[G X]X,X", "(G X)‸F G X", "(‸F X)+G X"} {
		w := in("K", 1, marked)
		m := of(t, "R←A F B\nR←B÷B-B", "K X\n"+w.Text, "R←N\nR←F 5", "R←G X\nR←1")
		m.Do("K 3", plenty)
		groups := m.Suspended()
		if len(groups) != 1 || groups[0][0] != in("F", 1, "R←B‸÷B-B") || groups[0][len(groups[0])-1] != w {
			t.Errorf("%s: %+v", marked, groups)
		}
	}
}

func TestResetAll(t *testing.T) { // P13.2, P13.5, E5
	m := of(t, "R←F X;A\nA←X\nG X", "G X;B;A\nB←X ⋄ C←X\n1÷0", "A←1", "B←2", "C←3")
	for i := range 3 {
		fails(t, m, "F 5", api.Domain, in("G", 2, "1‸÷0"))
		if len(m.Suspended()) != i+1 {
			t.Error(i)
		}
	}
	shows(t, m, "A←6 ⋄ B ⋄ C", "5|5")
	if n := m.Reset(true); n != 6 {
		t.Error(n)
	}
	suspended(t, m)
	shows(t, m, "A B C", "1 2 5") // of those that are no locals the assignments are done
	if n := m.Reset(true) + m.Reset(false); n != 0 {
		t.Error(n)
	}
}

// TestLeaveGroup: → alone by itself leaves the last group, and the line goes on.
func TestLeaveGroup(t *testing.T) { // P13.1
	m := of(t, "F X\n1÷X", "X←9")
	fails(t, m, "F 0", api.Domain, in("F", 1, "1‸÷X"))
	fails(t, m, "F 0", api.Domain, in("F", 1, "1‸÷X"))
	shows(t, m, "X ⋄ → ⋄ X ⋄ → ⋄ X", "0|0|9")
	suspended(t, m)
	fails(t, m, "F 0", api.Domain, in("F", 1, "1‸÷X"))
	shows(t, m, "X ⋄ → ⋄ F 2 ⋄ → ⋄ X", "0|1r2|9")
	fails(t, m, "F 0", api.Domain, in("F", 1, "1‸÷X"))
	// With steps that do not come so far it is not left.
	if o := m.Do("1 ⋄ →", 1); o.Errno != api.Interrupt || o.Where != at("‸→") {
		t.Error(o)
	}
	errs(t, m, "‸→1", api.Syntax)
	fails(t, m, "→⎕←5", api.Syntax, at("‸→⎕←5"), "5")
	errs(t, m, "‸→⍳0", api.Syntax)
	suspended(t, m, []machine.Where{in("F", 1, "1‸÷X")})
}

// TestErrorsKeep: behind an error names have the values that were assigned.
func TestErrorsKeep(t *testing.T) { // P13.4, E4
	m := of(t, "F X;L\nL←1 ⋄ G1←2\nG2←X ⋄ V[2]←9\n÷X-X\nG3←4", "V←1 2 3")
	fails(t, m, "A←1 ⋄ B←F 5 ⋄ C←3", api.Domain, in("F", 3, "‸÷X-X"))
	shows(t, m, "A G1 G2 ⋄ V ⋄ ⎕NC 3 2⍴'B C G3'", "1 2 5|1 9 3|0 0 0")
	shows(t, m, "⎕NC 'L' ⋄ L", "2|1")
	m.Reset(true)
	shows(t, m, "⎕NC 'L' ⋄ A G1 G2", "0|1 2 5")
	errs(t, m, "Z+A+1 2‸+B←0 0 0", api.Length)
	if m.Do("B", 1).Shown[0] != "0 0 0" {
		t.Error("B")
	}
}

func TestDefine(t *testing.T) { // P13.2
	m := of(t, "V←5", "F←{⍵}", "S X\n1÷X", "L X\nE:1÷X")
	for _, c := range []struct {
		lines string
		name  string
		e     api.Errno
		line  int
	}{
		{"R←G X\nR←X", "G", api.OK, 0}, {"G", "G", api.OK, 0}, {"A G B;C\n\n⍝", "G", api.OK, 0}, {"F X\nX", "F", api.OK, 0}, {"V\n1", "", api.Domain, 0}, {"1F", "", api.ErrDefn, 0}, {"", "", api.ErrDefn, 0}, {"{⍵}", "", api.ErrDefn, 0}, {"G\n'a", "", api.ErrDefn, 1}, {"G\n1\n$", "", api.ErrDefn, 2}, {"G X\nX:1", "", api.ErrDefn, 1}, {"⎕IO", "", api.ErrDefn, 0}, {"V\n1\n'", "", api.ErrDefn, 2},
		{strings.Repeat("\n", api.MaxLines), "", api.ErrDefn, 0}, {"G" + strings.Repeat("\n", api.MaxLines-1), "G", api.OK, 0}, {"G" + strings.Repeat("\n", api.MaxLines), "", api.ErrDefn, 0},
	} {
		f := m.Fork()
		before := picture(f)
		name, e, line := f.Define(strings.Split(c.lines, "\n")...)
		if name != c.name || e != c.e || line != c.line {
			t.Errorf("%.20q: %s %d %d, want %+v", c.lines, name, e, line, c)
		}
		if e != api.OK && !slices.Equal(before, picture(f)) {
			t.Error(c, picture(f))
		}
		want, _, _ := define.Make(strings.Split(c.lines, "\n")...)
		if b, _ := f.Table().Get(c.name); e == api.OK && (b.Class != api.Function || !define.Same(b.Fn, want)) {
			t.Error(c, b)
		}
	}
	if name, e, line := m.Define(); name != "" || e != api.ErrDefn || line != 0 {
		t.Error(name, e, line)
	}
	// A function that is suspended stays; what is defined is defined where the names are now.
	fails(t, m, "S 0", api.Domain, in("S", 1, "1‸÷X"))
	fails(t, m, "L 0", api.Domain, in("L", 1, "1‸÷X"))
	for _, header := range []string{"S", "L", "R←S Y", "E", "X"} {
		if name, e, line := m.Define(header, "5"); name != "" || e != api.Domain || line != 0 {
			t.Error(header, name, e, line)
		}
	}
	if name, e, _ := m.Define("G", "7"); name != "G" || e != api.OK {
		t.Error(name, e)
	}
	m.Reset(true)
	if name, e, _ := m.Define("S", "6"); name != "S" || e != api.OK {
		t.Error(name, e)
	}
	shows(t, m, "G ⋄ S", "7|6")
}

func TestErase(t *testing.T) { // P13.2
	m := of(t, "A←1", "B←2", "F←{⍵}", "G X;A;H\nA←5\nH←{⍵}\n1÷X", "N\n1")
	if m.Erase() != 0 || m.Erase("Z", "", "1", "⎕IO", "\xff") != 0 {
		t.Error("none")
	}
	if n := m.Erase("A", "A", "F", "N", "Z"); n != 3 {
		t.Error(n)
	}
	shows(t, m, "⎕NC 5 1⍴'ABFGN'", "0 2 0 3 0")
	done(t, m, "A←1", "H←8")
	fails(t, m, "G 0", api.Domain, in("G", 3, "1‸÷X"))
	if n := m.Erase("G", "A", "H", "X", "G"); n != 3 {
		t.Error(n)
	}
	shows(t, m, "⎕NC 4 1⍴'GAHX'", "3 0 0 0")
	m.Reset(true)
	shows(t, m, "A H", "1 8")
	if n := m.Erase("G", "B", "A", "H"); n != 4 {
		t.Error(n)
	}
	if l := m.Table().List(api.Label, api.Variable, api.Function); len(l) > 0 {
		t.Error(l)
	}
}

func TestTableAndEnv(t *testing.T) { // P13.2
	m := of(t, "A←1 2", "R←F X;A\nL:A←X\n1÷0", "⎕IO←0", "⎕CT←1r3", "⎕PP←5")
	fails(t, m, "F 9", api.Domain, in("F", 2, "1‸÷0"))
	table := m.Table()
	if l := table.List(api.Function); !slices.Equal(l, []string{"F"}) || table.Depth() != 1 || !slices.Equal(table.Locals(0), []string{"R", "X", "A", "L"}) || !slices.Equal(table.List(api.Label), []string{"L"}) || !slices.Equal(table.List(api.Variable), []string{"A", "X"}) {
		t.Error(l, table.Locals(0))
	}
	if b, ok := table.Global("A"); !ok || len(b.Array.Items) != 2 {
		t.Error(b)
	}
	if e := m.Env(); e.IO != 0 || e.PP != 5 || len(e.CT.Den) != 1 || e.CT.Den[0] != 3 {
		t.Error(e)
	}
	// They are the caller's.
	table.Pop()
	table.Erase("F", "A")
	shows(t, m, "A L X ⋄ ⎕NC 'F'", "9 1 9|3")
	m.Reset(true)
	shows(t, m, "A", "1 2")
}

// TestFork: what becomes of the one changes nothing of the other one.
func TestFork(t *testing.T) { // P13.2, P4
	m := of(t, "A←1 2", "R←F X;B\nB←X\n1÷X", "⎕CT←1r3", "D←{⍵}")
	fails(t, m, "F 0", api.Domain, in("F", 2, "1‸÷X"))
	fails(t, m, "F 0", api.Domain, in("F", 2, "1‸÷X"))
	changes := []func(m *machine.Machine){
		func(m *machine.Machine) { m.Do("A←5", 9) }, func(m *machine.Machine) { m.Do("A[1]←5", 9) }, func(m *machine.Machine) { m.Do("B←5", 9) }, func(m *machine.Machine) { m.Do("⎕IO←0 ⋄ ⎕CT←0 ⋄ ⎕PP←1", 9) }, func(m *machine.Machine) { m.Do("→", 9) }, func(m *machine.Machine) { m.Do("F 0", 9) },
		func(m *machine.Machine) { m.Reset(false) }, func(m *machine.Machine) { m.Reset(true) }, func(m *machine.Machine) { m.Define("G", "5") }, func(m *machine.Machine) { m.Define("D X", "5") }, func(m *machine.Machine) { m.Erase("A", "D", "X") },
	}
	whole := picture(m)
	for i, change := range changes {
		f := m.Fork()
		if !slices.Equal(picture(f), whole) {
			t.Fatal(i, picture(f))
		}
		change(f)
		changed := picture(f)
		if slices.Equal(changed, whole) || !slices.Equal(picture(m), whole) {
			t.Error(i, changed)
		}
		one, other := m.Fork(), m.Fork()
		change(one)
		for _, more := range changes {
			more(other)
		}
		if !slices.Equal(picture(one), changed) {
			t.Error(i, picture(one))
		}
	}
	if f := m.Fork().Fork(); !slices.Equal(picture(f), whole) || f.Reset(true) != 2 {
		t.Error(picture(f))
	}
}
