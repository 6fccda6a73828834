package session_test

import (
	"math"
	"slices"
	"strings"
	"testing"

	"glyph/api"
	"glyph/machine"
	"glyph/session"
)

func TestNil(t *testing.T) { // P15.1, P1
	var s *session.Session
	for _, line := range []string{"", "1", "∇F", ")VARS", ")OFF", "\xff"} {
		if got := s.Line(line); len(got) > 0 {
			t.Errorf("%q: %q", line, got)
		}
	}
	if s.Defining() || s.Off() || s.Machine() != nil || s.Fork() != nil {
		t.Error("a nil session has something")
	}
}

func TestNew(t *testing.T) { // P15.1
	for _, steps := range []int{math.MinInt, -1, 0, 1, api.MaxSteps, math.MaxInt} {
		s := session.New(steps)
		if s == nil || s.Defining() || s.Off() || !slices.Equal(pictureOf(s.Machine()), pictureOf(machine.New())) {
			t.Error(steps)
		}
	}
}

// TestFewSteps: a line has as many as the session has, and each line has them anew.
func TestFewSteps(t *testing.T) { // P15.1, E1
	for _, steps := range []int{math.MinInt, -1, 0} {
		s := session.New(steps)
		tells(t, s, "", "INTERRUPT|      |      ^")
		tells(t, s, "A←1", "INTERRUPT|      A←1|      ^")
		tells(t, s, ")VARS", "")
		tells(t, s, "∇F", "") // what is no statement takes none
		tells(t, s, "1", "")
		tells(t, s, "∇", "")
		tells(t, s, ")FNS", "F")
		tells(t, s, "F", "INTERRUPT|      F|      ^")
	}
	s := session.New(1)
	for range 3 {
		tells(t, s, "5", "5")
		tells(t, s, "A←1 ⋄ 2", "INTERRUPT|      2|      ^")
		tells(t, s, "-5", "INTERRUPT|      -5|      ^")
	}
	tells(t, session.New(2), "-5", "¯5")
}

// TestManySteps: at most MaxSteps there are.
func TestManySteps(t *testing.T) { // P15.1, P5, E1
	lines, just := lasting(t, api.MaxSteps)
	interrupted := "INTERRUPT|      A|      ^"
	for _, steps := range []int{api.MaxSteps, api.MaxSteps + 1, math.MaxInt} {
		s := session.New(steps)
		for _, line := range lines {
			tells(t, s, line, "")
		}
		tells(t, s, just, "")
		tells(t, s, just+" ⋄ A", interrupted)
	}
	s := session.New(api.MaxSteps - 1)
	for _, line := range lines {
		s.Line(line)
	}
	if got := s.Line(just); len(got) != 3 || got[0] != "INTERRUPT" {
		t.Error(got)
	}
}

func TestStatements(t *testing.T) { // P15.1, E2, E4
	s := session.New(plenty)
	for _, c := range []struct{ line, want string }{
		{"2+3 4 5", "5 6 7"}, {"A←3 1 2", ""}, {" A[⍋A]\t", "1 2 3"}, {"", ""}, {" ", ""}, {"\t", ""}, {" \t ", ""}, {"⍝ )VARS", ""}, {"1 ⋄ 2 ⋄ 3", "1|2|3"}, {"⍳0", ""},
		{"1 2+1 2 3", "LENGTH ERROR|      1 2+1 2 3|         ^"}, {"A←5 ⋄ 1÷0 ⋄ A←6", "DOMAIN ERROR|      1÷0|       ^"}, {"A", "5"}, {"1 ⋄ Z", "1|VALUE ERROR|      Z|      ^"},
		{"1)", "SYNTAX ERROR|      1)|       ^"}, {"F←∇", "SYNTAX ERROR|      F←∇|       ^"}, {"1∇", "SYNTAX ERROR|      1∇|       ^"}, {"(1)", "1"}, {"→", ""}, {"→1", "SYNTAX ERROR|      →1|      ^"},
		{"\xff", "SYNTAX ERROR|      \xff|      ^"}, {"A\xff)", "SYNTAX ERROR|      A\xff)|       ^"}, {"\u00a0)VARS", "SYNTAX ERROR|      \u00a0)VARS|      ^"}, {"1\r", "SYNTAX ERROR|      1\r|       ^"}, {"\r∇F", "SYNTAX ERROR|      \r∇F|      ^"}, {"1\n2", "SYNTAX ERROR|      1\n2|       ^"}, {"'\n", "SYNTAX ERROR|      '\n|      ^"},
	} {
		if got := s.Line(c.line); strings.Join(got, "|") != c.want {
			t.Errorf("%q tells %q, want %q", c.line, got, c.want)
		}
		if s.Defining() || s.Off() {
			t.Fatal(c.line)
		}
	}
	if got := s.Line("⍳0"); !slices.Equal(got, []string{""}) { // an empty line that is shown is one
		t.Errorf("%q", got)
	}
	if got := s.Line("0 0⍴0"); len(got) > 0 {
		t.Errorf("%q", got)
	}
	long := strings.Repeat("1", api.MaxLine+1)
	if got := s.Line(long); len(got) != 3 || got[0] != "SYNTAX ERROR" || got[1] != "      "+long || got[2] != "      ^" {
		t.Errorf("%.80q", got)
	}
}

func TestExamplesOfTheWhole(t *testing.T) { // the section 'Ten examples of the whole', and the chapter's
	for _, c := range []struct{ script, want string }{
		{"2+3 4 5\n1÷3\n¯1 2×3", "5 6 7|1r3|¯3 6"},
		{"+/⍳5\n×\\1 2 3 4\n1 2∘.×3 4", "15|1 2 6 24|3 4|6 8"},
		{"'abc'='abd'\n⍴2 3⍴⍳6", "1 1 0|2 3"},
		{"A←3 1 2\nA[⍋A]", "1 2 3"},
		{"∇R←F X\nR←0\n→(X=0)/0\nR←X+F X-1\n∇\nF 4\nF 0", "10|0"},
		{"{⍵≤1:1 ⋄ ⍵×∇ ⍵-1}5", "120"},
		{"1 2+1 2 3", "LENGTH ERROR|      1 2+1 2 3|         ^"},
		{"X←7 8\n'X' ⎕EA '1÷0'", "7 8"},
		{"⍎'1+1'\n⍕1r3\n'1r3'≡⍕1r3", "2|1r3|1"},
		{"A←(⍳3)(2 2⍴'abcd')\n⍴A\nA", "2| 1 2 3   ab|         cd"},
		{"∇R←F X\nR←X×2\n∇\nF 21\n)FNS\nF 1 2+1\n)FOO", "42|F|4 6|INCORRECT COMMAND"},
	} {
		runs(t, c.script, c.want)
		runs(t, c.script+"\n", c.want)
	}
}

// TestIdentities: what the whole promises of its functions, in scripts.
func TestIdentities(t *testing.T) { // E2, E3, E6, E7
	for _, array := range []string{"⍳7", "5", "'hello'", "3 4⍴⍳12", "2 3 2⍴'abcdefghijkl'", "(1 2)'ab'(3 3⍴0)", "⍳0", "0 3⍴' '", ",1r3", "2 2⍴(1 2)'x'5(⊂6 7)"} {
		script := "A←" + array + "\nA≡⌽⌽A\nA≡⊖⊖A\nA≡⍉⍉A\n"
		runs(t, script, "1|1|1")
	}
	for _, vector := range []string{"3 1 2", "5 5 1 ¯4 1r2 5", ",9", "⍳0", "10-⍳9"} {
		script := "V←" + vector + "\nV≡(2↑V),2↓V,0⍴V\nV[⍋V]≡⌽V[⍒V]\nV≡V[⍋V][⍋⍋V]\nV≡⍎⍕V\n"
		got := session.Run(script)
		want := "1\n1\n1\n1\n"
		switch vector {
		case ",9", "⍳0": // what is taken of fewer is filled, and one number is shown, and executed, as a scalar
			if !strings.HasPrefix(got, "0\n1\n1\n") {
				t.Errorf("%s: %q", vector, got)
			}
		default:
			if got != want {
				t.Errorf("%s: %q", vector, got)
			}
		}
	}
	runs(t, "24 60 60⊥24 60 60⊤86399\n(10 10 10⊤10 10 10⊥4 5 6)≡4 5 6\n1r3=1÷3\n(2*100)≡×/100⍴2\n1r3+1r6", "86399|1|1|1|1r2")
	runs(t, "∇R←A F B;X\nL:X←A⋄R←X+B\n→L×⍳0\n∇\n1 F 2\nC←⎕CR 'F'\n⎕EX 'F'\n⎕FX C\nC≡⎕CR 'F'\n1 F 2", "3|1|F|1|3")
}

// TestFork: what becomes of the one changes nothing of the other one.
func TestFork(t *testing.T) { // P15.1, P4
	base := of(t, "A←1 2\n∇F X;B\nB←X\n1÷0\n∇\nD←{⍵}")
	base.Line("F 0")
	base.Line("F 0")
	changes := []string{"A←5", "A[1]←5", "B←7", "⎕IO←0 ⋄ ⎕CT←1r2", "→", "F 1", ")RESET", ")ERASE A", ")CLEAR", ")OFF", "∇G", "E←{⍵}"}
	whole := picture(base)
	for i, line := range changes {
		f := base.Fork()
		if !slices.Equal(picture(f), whole) {
			t.Fatal(line, picture(f))
		}
		f.Line(line)
		changed := picture(f)
		if slices.Equal(changed, whole) || !slices.Equal(picture(base), whole) {
			t.Error(line, changed)
		}
		one, other := base.Fork(), base.Fork()
		one.Line(line)
		for j, more := range changes {
			if j != i {
				other.Line(more)
			}
		}
		if !slices.Equal(picture(one), changed) || !slices.Equal(picture(base), whole) {
			t.Error(line, picture(one))
		}
	}
	// Steps are kept, too.
	if got := session.New(1).Fork().Line("1 ⋄ 2"); !slices.Equal(got, []string{"1", "INTERRUPT", "      2", "      ^"}) {
		t.Error(got)
	}
	if f := base.Fork().Fork(); !slices.Equal(picture(f), whole) {
		t.Error(picture(f))
	}
}

// TestForkWhileDefining: each goes on with its own lines.
func TestForkWhileDefining(t *testing.T) { // P15.1, P4
	for length := range 9 {
		s := of(t, "∇R←F X"+strings.Repeat("\n⍝", length))
		f, g := s.Fork(), s.Fork()
		if !f.Defining() {
			t.Fatal("it is not defining")
		}
		tells(t, s, "R←X", "")
		tells(t, f, "R←X+1", "")
		tells(t, f, "∇", "")
		if !s.Defining() || f.Defining() || !g.Defining() {
			t.Error("an end is one for both")
		}
		tells(t, s, "R←R×3", "")
		tells(t, g, "R←¯5", "")
		tells(t, s, "∇", "")
		tells(t, g, "∇", "")
		tells(t, s, "F 5", "15")
		tells(t, f, "F 5", "6")
		tells(t, g, "F 5", "¯5")
	}
	off := of(t, ")OFF").Fork()
	if !off.Off() || len(off.Line("1")) > 0 {
		t.Error("a Fork of one that was left is left")
	}
}

// TestMachine: it is the caller's.
func TestMachine(t *testing.T) { // P15.1, P3, P4
	s := of(t, "A←1 2\n⎕IO←0\n∇F;A\nA←3\n1÷0\n∇")
	m := s.Machine()
	if o := m.Do("A ⋄ ⎕IO", plenty); !slices.Equal(o.Shown, []string{"1 2", "0"}) {
		t.Error(o)
	}
	m.Do("A←5 ⋄ ⎕IO←1 ⋄ F", plenty)
	m.Erase("F")
	tells(t, s, "A ⋄ ⎕IO ⋄ ⎕NC 'F'", "1 2|0|3")
	tells(t, s, ")SI", "")
	s.Line("F")
	if m := s.Machine(); len(m.Suspended()) != 1 || m.Reset(true) != 1 {
		t.Error(m.Suspended())
	}
	tells(t, s, "A", "3")
	tells(t, s, ")SI", "F[2]*")
	s.Line(")OFF")
	if m := s.Machine(); len(m.Suspended()) != 1 {
		t.Error("the machine of a session that was left")
	}
}

// TestApart: what a line tells is the caller's, and nothing is kept but in sessions.
func TestApart(t *testing.T) { // P3, P6
	s := of(t, "A←1\n∇F\n1÷0\n∇")
	for _, line := range []string{"A", "1 ⋄ 2", ")VARS", ")FNS", ")FOO", "1÷0", ")ERASE Z", "∇"} {
		got := s.Line(line)
		want := slices.Clone(got)
		for i := range got {
			got[i] = "changed"
		}
		if again := s.Line(line); !slices.Equal(again, want) {
			t.Error(line, again)
		}
	}
	l := session.Commands()
	l[0] = "changed"
	if session.Commands()[0] != ")VARS" {
		t.Error(session.Commands())
	}
	other := session.New(plenty)
	tells(t, other, ")VARS", "")
	tells(t, other, ")FNS", "")
	runs(t, "A←1\n)OFF", "")
	runs(t, "A", "VALUE ERROR|      A|      ^")
}
