package workspace_test

import (
	"strings"
	"testing"

	"glyph/api"
	"glyph/machine"
	"glyph/workspace"
)

// TestSame: of machines that part in one thing alone, each is the same as itself.
func TestSame(t *testing.T) { // P16.2, P1
	base := []string{"A←1 2", "D←{⍵}", "∇R←F X;Y\nL:R←X"}
	with := func(lines ...string) *machine.Machine { return of(t, append(append([]string{}, base...), lines...)...) }
	erased := func(name string) *machine.Machine {
		m := with()
		m.Erase(name)
		return m
	}
	different := []*machine.Machine{
		with(), with("⎕IO←0"), with("⎕CT←1r2"), with("⎕CT←1r3"), with("⎕PP←9"), with("⎕PP←1"),
		with("B←1"), with("A←1 3"), with("A←1 2 3"), with("A←1 'b'"), with("A←1 2⍴1 2"), with("A←⊂1 2"), with("A←⍳0"), with("A←''"), with("A←0⍴⊂1 2"), with("A←0 0⍴0"),
		with("E←{⍵}"), with("⎕EX 'D'", "D←{⍺}"), with("⎕EX 'D'", "D←{⍵ }"), with("∇D X\nX"), with("∇F\n1"), with("∇R←F X;Y\nL:R←X\n"), with("∇R←F X\nL:R←X"), with("∇R←F X;Y\nL: R←X"), with("∇R←F X;Y\nM:R←X"),
		erased("A"), erased("D"), erased("F"), machine.New(),
	}
	for i, a := range different {
		if workspace.Same(a, nil) || workspace.Same(nil, a) {
			t.Error(i, "is the same as nil")
		}
		for j, b := range different {
			if got := workspace.Same(a, b); got != (i == j) {
				t.Error(i, j, got)
			}
			if got := workspace.Same(a.Fork(), b); got != (i == j) {
				t.Error(i, j, got)
			}
		}
	}
	if !workspace.Same(nil, nil) {
		t.Error("nil is the same as nil")
	}
	// However it came to be.
	if !workspace.Same(with("B←5", "⎕EX 'B'", "A←3", "A←⍳2", "⎕CT←0.5", "⎕CT←0"), with()) {
		t.Error("it hangs on what was ahead")
	}
	if !workspace.Same(of(t, "⎕CT←2r4"), of(t, "⎕CT←0.5")) {
		t.Error("the tolerance")
	}
	// A name may be a variable in the one, and a function in the other one; or another name may have the same.
	for _, other := range []string{"A←{1}", "B←1", "a←1"} {
		if one, m := of(t, "A←1"), of(t, other); workspace.Same(one, m) || workspace.Same(m, one) {
			t.Error(other)
		}
	}
}

// TestSameOutside: what there is in frames plays no part, nor does what is suspended.
func TestSameOutside(t *testing.T) { // P16.2, E5
	lines := []string{"A←1", "∇F X;A;B\nL:A←X\nB←2\n1÷0"}
	a, b := of(t, lines...), of(t, lines...)
	a.Do("F 5", plenty)
	a.Do("F 6", plenty)
	if !workspace.Same(a, b) || !workspace.Same(b, a) || len(a.Suspended()) != 2 {
		t.Error("what is suspended plays a part")
	}
	a.Do("A←7", plenty) // a local one
	if !workspace.Same(a, b) {
		t.Error("a local name plays a part")
	}
	a.Do("C←7", plenty)
	if workspace.Same(a, b) {
		t.Error("a name outside plays no part")
	}
}

// author writes lines by which workspaces come to be.
type author struct {
	d dice
}

func (a *author) choice(l ...string) string {
	return l[a.d.next(len(l))]
}

func (a *author) name() string {
	return a.choice("A", "B", "C", "∆", "⍵", "⍺", "a1", "_")
}

func (a *author) line() string {
	switch a.d.next(9) {
	case 0:
		return a.name() + "←{" + a.choice("⍵", "⍺+⍵", "A←⍵ ⋄ A÷0", "⍵≤0:0 ⋄ ∇ ⍵-1", " '}' ", "", "{⍵}⍵ ⋄ 5") + "}"
	case 1:
		return a.choice("⎕IO←0", "⎕IO←1", "⎕CT←1r7", "⎕CT←0", "⎕PP←5", "⎕CT←99999999999999999999r100000000000000000000")
	case 2:
		return a.choice("F 0", "F 1", "G", "A 1", "B 2", "G ⋄ G", "→", "⎕EX '"+a.name()+"'")
	case 3:
		return a.name() + "←" + a.choice("A", "B", "⎕IO⍴A", "A B", "⌽A", "⍉A", "A,B", "A∘.=B", "⊂A", "1↑A", "0⍴A", "0⍴⊂A", "÷A", "⍕A", "⍳3", "⎕CR 'F'")
	case 4:
		return a.name() + "[1]←" + a.choice("5", "'x'", "⊂1 2", "A")
	}
	line, e := workspace.Variable(a.name(), randomArray(&a.d, 3))
	if e != api.OK {
		return "A←1"
	}
	return line
}

func (a *author) function() []string {
	lines := []string{a.choice("F X;A", "R←F X", " G ;B;C", "R←A F B ⍝ two", "G", "R ← F X ; A ; L2")}
	for range a.d.next(4) {
		lines = append(lines, a.choice("L:", "", " ", "\t")+a.choice("A←5", "R←1÷X", "→0", "⍝ remark ∇", "", " 1 ", "∇∇", ")OFF", "'∇'", "C←{⍵}", "1÷0"))
	}
	return lines
}

// TestThereAndBack: what Save tells is loaded to the same workspace, of which Save tells the same.
func TestThereAndBack(t *testing.T) { // P16.3, P16.4, E6, E5
	a := &author{d: 88172645463325252}
	saved, suspended := 0, 0
	for range 1500 {
		m := machine.New()
		for range 12 {
			if a.d.next(4) == 0 {
				m.Define(a.function()...)
			} else {
				m.Do(a.line(), 200)
			}
		}
		if len(m.Suspended()) > 0 {
			suspended++
		}
		text, e := workspace.Save(m)
		if e == api.Limit || e == api.ErrForm {
			continue
		}
		saved++
		back, e, at := workspace.Load(text)
		if e != api.OK {
			t.Fatalf("%q: %d at %d", text, e, at)
		}
		if !workspace.Same(m, back) || !workspace.Same(back, m) || len(back.Suspended()) > 0 {
			t.Fatalf("%q is not the same", text)
		}
		if again, e := workspace.Save(back); e != api.OK || again != text {
			t.Fatalf("%q, and again %q %d", text, again, e)
		}
		m.Reset(true)
		if got, _ := workspace.Save(m); got != text || !strings.HasPrefix(text, "⎕IO←") {
			t.Fatalf("%q, and outside %q", text, got)
		}
	}
	if saved < 1000 || suspended < 100 {
		t.Error("too few are saved, or suspended:", saved, suspended)
	}
}
