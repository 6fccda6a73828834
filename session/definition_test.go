package session_test

import (
	"slices"
	"strconv"
	"strings"
	"testing"

	"glyph/api"
	"glyph/define"
	"glyph/machine"
	"glyph/session"
)

func TestDefinition(t *testing.T) { // P15.1, E5
	s := session.New(plenty)
	tells(t, s, "∇R←F X;Y", "")
	if !s.Defining() {
		t.Error("a function is defined from now on")
	}
	// While it is, all else is lines: statements, commands, what is none.
	for _, line := range []string{"Y←X ⋄ Z←1", "", " ", "⍝ )OFF", "R←Y×2", "→0", ")OFF", ")VARS", "→", "∇∇", "∇F"} {
		tells(t, s, line, "")
		if !s.Defining() || s.Off() {
			t.Fatal(line)
		}
	}
	tells(t, s, " \t∇ ", "")
	if s.Defining() {
		t.Error("the definition has ended")
	}
	tells(t, s, "F 21", "42")
	tells(t, s, "⍴⎕CR 'F'", "12 9")
	tells(t, s, "⎕NC 3 1⍴'YZX'", "0 2 0")
	tells(t, s, "∇", "DEFN ERROR")
}

// TestFirstLine: it is what stands behind the ∇, as it is.
func TestFirstLine(t *testing.T) { // P15.1, P15.5
	for _, c := range []struct{ line, header string }{
		{"∇F", "F"}, {" \t∇F", "F"}, {"∇ F ", " F "}, {"∇\tF\t", "\tF\t"}, {"∇F X ⍝ ∇ twice", "F X ⍝ ∇ twice"}, {"\t∇R ← A F B ; C ", "R ← A F B ; C "},
	} {
		s := of(t, c.line+"\n 1 \n∇")
		b, _ := s.Machine().Table().Get("F")
		if b.Class != api.Function || !slices.Equal(b.Fn.Lines, []string{c.header, " 1 "}) {
			t.Errorf("%q: %q", c.line, b.Fn.Lines)
		}
	}
	for _, line := range []string{"∇", " ∇", "∇ ", "\t∇\t", "  ∇ \t "} {
		s := session.New(plenty)
		tells(t, s, line, "DEFN ERROR")
		if s.Defining() {
			t.Errorf("%q: a function is defined", line)
		}
		tells(t, s, "1", "1")
	}
	// What is no header is one as long as nobody asks.
	for _, line := range []string{"∇∇", "∇∇F", "∇1", "∇)VARS", "∇\xff", "∇ 'a", "∇⍝", "∇{⍵}", "∇F∇", "∇\r", "∇\u00a0", "∇F F", "∇⎕IO", "∇" + strings.Repeat("F", api.MaxName+1), "∇" + strings.Repeat(" ", api.MaxLine) + "F"} {
		s := session.New(plenty)
		tells(t, s, line, "")
		if !s.Defining() {
			t.Errorf("%q: no function is defined", line)
		}
		tells(t, s, "'", "")
		tells(t, s, "∇", "DEFN ERROR [0]")
		if s.Defining() || len(s.Machine().Table().List(api.Function)) > 0 {
			t.Errorf("%q", line)
		}
	}
	// A header may be as long as a line: the ∇ does not count.
	long := "F" + strings.Repeat(" ", api.MaxLine-1)
	tells(t, of(t, "∇"+long+"\n5\n∇"), "F", "5")
}

func TestWrongDefinitions(t *testing.T) { // P15.1
	for _, c := range []struct {
		lines []string
		want  string
	}{
		{[]string{"∇1"}, "DEFN ERROR [0]"}, {[]string{"∇F X", "1", "'a"}, "DEFN ERROR [2]"}, {[]string{"∇F X", "X:1"}, "DEFN ERROR [1]"}, {[]string{"∇F", "L:1", "", "L:2"}, "DEFN ERROR [3]"}, {[]string{"∇F", "\xff"}, "DEFN ERROR [1]"}, {[]string{"∇F", "⍝\n", "1\n"}, "DEFN ERROR [2]"}, {[]string{"∇F", strings.Repeat("1", api.MaxLine+1)}, "DEFN ERROR [1]"},
		{[]string{"∇V", "1"}, "DEFN ERROR"}, {[]string{"∇R←V X"}, "DEFN ERROR"}, {[]string{"∇V", "$"}, "DEFN ERROR [1]"},
		{[]string{"∇S X", "1"}, "DEFN ERROR"}, {[]string{"∇L"}, "DEFN ERROR"}, {[]string{"∇X"}, "DEFN ERROR"}, {[]string{"∇S X", "1", "$"}, "DEFN ERROR [2]"},
		{[]string{"∇D X", "2"}, ""}, {[]string{"∇G"}, ""},
	} {
		// S is suspended, L is its label, and X its argument.
		s := of(t, "V←1\n∇S X\nL:X÷0\n∇\nD←{⍵}")
		s.Line("S 1")
		before := picture(s)
		for _, line := range c.lines {
			tells(t, s, line, "")
		}
		tells(t, s, "∇", c.want)
		if s.Defining() || c.want != "" && !slices.Equal(before, picture(s)) || c.want == "" && slices.Equal(before, picture(s)) {
			t.Error(c.lines, picture(s))
		}
	}
	// Behind )RESET the name is free of calls.
	s := of(t, "∇S X\nX÷0\n∇")
	s.Line("S 1")
	for _, line := range []string{"∇S X", "X", "∇"} {
		tells(t, s, line, map[string]string{"∇": "DEFN ERROR"}[line])
	}
	tells(t, s, ")RESET", "")
	for _, line := range []string{"∇S X", "X", "∇"} {
		tells(t, s, line, "")
	}
	tells(t, s, "S 6", "6")
}

// TestFullTable: there is no room for one more name.
func TestFullTable(t *testing.T) { // P15.1
	s := session.New(plenty)
	for i := range api.MaxNames {
		tells(t, s, "A"+strconv.Itoa(i)+"←0", "")
	}
	for _, line := range []string{"∇F", "1"} {
		tells(t, s, line, "")
	}
	tells(t, s, "∇", "DEFN ERROR")
	tells(t, s, "B←1", "LIMIT ERROR|      B←1|       ^")
	tells(t, s, ")ERASE A7", "")
	for _, line := range []string{"∇F", "1", "∇"} {
		tells(t, s, line, "")
	}
	tells(t, s, ")FNS", "F")
}

// TestMostLines: a definition has at most MaxLines lines, the header counted.
func TestMostLines(t *testing.T) { // P15.1, P5
	s := session.New(plenty)
	tells(t, s, "∇R←F", "")
	for i := range api.MaxLines - 1 {
		tells(t, s, "R←"+strconv.Itoa(i+1), "")
	}
	if !s.Defining() {
		t.Fatal("there is room for so many")
	}
	full := s.Fork()
	tells(t, s, "∇", "")
	tells(t, s, "F", strconv.Itoa(api.MaxLines-1))
	tells(t, s, "⍴⎕CR 'F'", "256 5")
	tells(t, full, "one more", "DEFN ERROR")
	if full.Defining() {
		t.Error("the definition has ended")
	}
	tells(t, full, ")FNS", "")
	tells(t, full, "1+1", "2")
	tells(t, full, "∇", "DEFN ERROR")
	tells(t, full, "∇G", "")
	tells(t, full, "∇", "")
	tells(t, full, ")FNS", "G")
}

// TestTypedIsDefined: a function that is typed line by line is that of machine.Define.
func TestTypedIsDefined(t *testing.T) { // P15.5
	headers := []string{"F", "R←F", "F X", "R←F X", "R←A F X;Y", " R ← F X ; Y ; Z ⍝ remark", "1", "F F", "R←F X;X", "∇"}
	bodies := []string{"R←X", "L:R←1", " M : →L ", "", "⍝", "'", "\xff", ")VARS", "∇F", "L:", "X:1", "→(X=0)/0 ⋄ R←X×F X-1", "\t1\t", "1\r", "{⍵}", strings.Repeat("1+", 512), strings.Repeat("1+", 513)}
	d := dice(88172645463325252)
	defined := 0
	for range 3000 {
		lines := []string{headers[d.next(len(headers))]}
		for range d.next(4) {
			lines = append(lines, bodies[d.next(len(bodies))])
		}
		s, m := session.New(plenty), machine.New()
		told := s.Line("∇" + lines[0])
		for _, line := range lines[1:] {
			told = append(told, s.Line(line)...)
		}
		told = append(told, s.Line("∇")...)
		name, e, line := m.Define(lines...)
		if !slices.Equal(pictureOf(m), picture(s)) {
			t.Errorf("%q: %q", lines, picture(s))
		}
		if e != api.OK {
			if !slices.Equal(told, []string{"DEFN ERROR [" + strconv.Itoa(line) + "]"}) {
				t.Errorf("%q: %q", lines, told)
			}
			continue
		}
		defined++
		one, _ := s.Machine().Table().Get(name)
		other, _ := m.Table().Get(name)
		if len(told) > 0 || !define.Same(one.Fn, other.Fn) {
			t.Errorf("%q: %q %v", lines, told, one)
		}
	}
	if defined < 100 {
		t.Error("too few functions are right:", defined)
	}
}
