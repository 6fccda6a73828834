package session_test

import (
	"slices"
	"strings"
	"testing"

	"glyph/api"
	"glyph/machine"
	"glyph/session"
)

func TestRun(t *testing.T) { // P15.2
	for _, c := range []struct{ script, want string }{
		{"", ""}, {"\n", ""}, {"\n\n\n", ""}, {" \n\t", ""}, {"1", "1"}, {"1\n", "1"}, {"1\n2", "1|2"}, {"\n1\n\n2\n\n", "1|2"}, {"1 ⋄ 2 2⍴⍳4\n", "1|1 2|3 4"}, {"A←5\nA", "5"}, {"A←5", ""},
		{"1÷0\n2", "DOMAIN ERROR|      1÷0|       ^|2"}, {"\xff\n1", "SYNTAX ERROR|      \xff|      ^|1"}, {"1\r\n2", "SYNTAX ERROR|      1\r|       ^|2"},
		// One that leaves the session in its middle, and one that ends while a function is defined.
		{"1\n)OFF\n2\n∇F\n)FOO\n1÷0", "1"}, {"1\n∇F\n2\n)OFF\n3", "1"}, {"∇F\n2\n∇", ""}, {"∇F\n2\n∇\nF", "2"}, {"∇F\n2\n ∇ \nF\n∇", "2|DEFN ERROR"}, {"∇F X\n\n'a\n∇\n1", "DEFN ERROR [2]|1"},
		{"A←1\n)VARS\n)ERASE A B\n)VARS\n)CLEAR\n)VARS", "A|NOT ERASED: B|CLEAR WS"}, {"∇F X\nX÷0\n∇\nF 1\n)SI\n)RESET\n)SI", "DOMAIN ERROR|F[1] X÷0|      ^|F[1]*"},
	} {
		runs(t, c.script, c.want)
	}
	if got := session.Run("⍳0\n"); got != "\n" { // an empty line that is told is a line
		t.Errorf("%q", got)
	}
	if got := session.Run("1\n⍳0\n2"); got != "1\n\n2\n" {
		t.Errorf("%q", got)
	}
}

func TestLengthOfScripts(t *testing.T) { // P15.2, P5
	just := strings.Repeat("\n", api.MaxScript-1) + "1"
	runs(t, just, "1")
	runs(t, just+"\n", "LIMIT ERROR")
	runs(t, just+"2", "LIMIT ERROR")
	runs(t, strings.Repeat("⍝", api.MaxScript/3), "SYNTAX ERROR|      "+strings.Repeat("⍝", api.MaxScript/3)+"|      ^") // bytes are counted, not characters
	runs(t, strings.Repeat("⍝", api.MaxScript/3+1), "LIMIT ERROR")
	runs(t, strings.Repeat("1", 1<<20), "LIMIT ERROR")
}

// TestStepsOfScripts: each line has 100000 steps.
func TestStepsOfScripts(t *testing.T) { // P15.2, E1
	lines, just := lasting(t, 100000)
	ahead := strings.Join(lines, "\n") + "\n"
	runs(t, ahead+just+"\n"+just+"\n5", "5")
	runs(t, ahead+just+"⋄1\n5", "INTERRUPT|      1|      ^|5")
	runs(t, "∇F\nL:→L\n∇\nF\n)SI\n1", "INTERRUPT|F[1] →L|     ^|F[1]*|1")
}

// author writes lines of scripts, right and wrong ones.
type author struct {
	d dice
}

func (a *author) choice(l ...string) string {
	return l[a.d.next(len(l))]
}

func (a *author) line() string {
	blanks := a.choice("", "", "", " ", "\t ")
	switch a.d.next(8) {
	case 0:
		return blanks + "∇" + a.choice("", "", "", "", " ", "F", "R←F X;A", "R←F X", "G X", "G", "1", "A", " N ", "∇", "\xff") + blanks
	case 1:
		return blanks + "∇" + blanks
	case 2:
		return blanks + a.choice(session.Commands()...) + a.choice("", "", "", " ", " A", "\tF A  Z") + blanks
	case 3:
		return blanks + a.choice(")", ")FOO", ")vars", ") SI", ")SI*", ")ERASE F G", ")ERASE A B N", ")RESET", ")SI", ")VARS", ")FNS")
	case 4:
		return a.choice("", " ", "⍝", "'", "1)", "→", "X:1", "L:R←X", "→L", "\xff", "∇∇")
	}
	return blanks + a.choice("A←1 2", "A", "B←A", "F 1", "F 0", "G 5", "G", "N", "R←X", "R←1÷X", "1÷0", "A←X", "A+1 2 3", "D←{A←⍵ ⋄ 1÷A}", "D 0", "⎕IO←0", "F←{⍵}", "⍎')'", "⎕FX 'G X' '1÷X'", "'0' ⎕EA 'D 0'", "⎕EX 'A'", "{∇ ⍵}1", "L:→L", "⎕NC 'A'", "R X")
}

// script is some lines; )OFF is rare in it.
func (a *author) script(count int) []string {
	var out []string
	for range count {
		line := a.line()
		if strings.Contains(line, "OFF") && a.d.next(4) > 0 {
			continue
		}
		out = append(out, line)
	}
	return out
}

// TestModel: a session does what the chapter's words say, line by line.
func TestModel(t *testing.T) { // P15.1, P1
	a := &author{d: 88172645463325252}
	seen := map[string]int{}
	for range 1200 {
		s, x := session.New(300), &model{machine: machine.New(), steps: 300}
		for _, line := range a.script(30) {
			got, want := s.Line(line), x.line(line)
			if !slices.Equal(got, want) || s.Off() != x.off || s.Defining() != (x.function != nil) {
				t.Fatalf("%q tells %q, want %q", line, got, want)
			}
			if !slices.Equal(pictureOf(s.Machine()), pictureOf(x.machine)) {
				t.Fatalf("%q: %q", line, picture(s))
			}
			for _, told := range got {
				seen[strings.SplitN(told, " ", 2)[0]]++
			}
			if s.Off() && a.d.next(3) > 0 {
				break
			}
		}
	}
	for _, told := range []string{"DEFN", "INCORRECT", "NOT", "CLEAR", "DOMAIN", "VALUE", "SYNTAX", "LENGTH", "INTERRUPT", "F[1]*", "D[2]*", "A", "F"} {
		if seen[told] == 0 {
			t.Error("nothing tells", told)
		}
	}
}

// TestBeginnings: what a script tells begins with what its beginnings tell.
func TestBeginnings(t *testing.T) { // P15.3, E1
	a := &author{d: 2463534242}
	for range 150 {
		lines := a.script(12)
		script := strings.Join(lines, "\n")
		whole := session.Run(script)
		// All that is told is told by the lines of one session.
		s := session.New(100000)
		told := ""
		for i, line := range lines {
			begun := ""
			if i > 0 {
				begun = strings.Join(lines[:i], "\n") + "\n"
			}
			if got := session.Run(begun); got != told || !strings.HasPrefix(whole, got) {
				t.Errorf("%q: %q, and %q", begun, got, whole)
			}
			for _, l := range s.Line(line) {
				told += l + "\n"
			}
		}
		if whole != told || session.Run(script+"\n") != whole {
			t.Errorf("%q: %q, want %q", script, whole, told)
		}
	}
}

// TestResetAnywhere: behind )RESET nothing is suspended, and names are what they were outside.
func TestResetAnywhere(t *testing.T) { // P15.4, E5
	a := &author{d: 362436069}
	suspended := 0
	for range 400 {
		s := session.New(300)
		for _, line := range a.script(25) {
			s.Line(line)
		}
		for s.Defining() {
			s.Line("∇")
		}
		if s.Off() {
			continue
		}
		if len(s.Machine().Suspended()) > 0 {
			suspended++
		}
		table := s.Machine().Table()
		tells(t, s, ")RESET", "")
		tells(t, s, ")SI", "")
		now := s.Machine().Table()
		if now.Depth() != 0 || len(s.Machine().Suspended()) > 0 {
			t.Error("calls are left")
		}
		for _, name := range []string{"A", "B", "F", "G", "N", "R", "X", "D", "L", "⍵", "⍺"} {
			outside, had := table.Global(name)
			b, has := now.Get(name)
			if has != had || b.Class != outside.Class || !slices.Equal(b.Fn.Lines, outside.Fn.Lines) || len(b.Array.Items) != len(outside.Array.Items) {
				t.Error(name, b, outside)
			}
		}
	}
	if suspended < 20 {
		t.Error("too few sessions have suspended calls:", suspended)
	}
}
