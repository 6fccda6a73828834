package workspace_test

import (
	"strconv"
	"strings"
	"testing"

	"glyph/api"
	"glyph/machine"
	"glyph/workspace"
)

func TestSave(t *testing.T) { // P16.2
	if got, e := workspace.Save(nil); got != "" || e != api.ErrNil {
		t.Errorf("%q %d", got, e)
	}
	saves(t, machine.New(), environment)
	saves(t, of(t, "A←1 2"), environment+"A←1 2\n")
	saves(t, of(t, "⎕IO←0", "⎕CT←1r1000", "⎕PP←34"), "⎕IO←0\n⎕CT←1r1000\n⎕PP←34\n")
	saves(t, of(t, "b←1", "∆←2", "⍵←3", "B←4", "A1←5", "A←6", "_←7", "∇R←F X\nR←X\n", "D←{⍵}", "∇a\n1"), environment+"A←6\nA1←5\nB←4\nD←{⍵}\n∇R←F X\nR←X\n\n∇\n_←7\n∇a\n1\n∇\nb←1\n∆←2\n⍵←3\n")
	m := of(t, "A←1", "A←'x'", "B←2", "∇B1\n1", "⎕FX 'B1' '2'")
	m.Erase("B")
	saves(t, m, environment+"A←'x'\n∇B1\n2\n∇\n")
}

// TestSaveOfSuspended: what is saved is what there is outside, and saving changes nothing.
func TestSaveOfSuspended(t *testing.T) { // P16.2, P4, E5
	m := of(t, "A←1", "B←2", "D←{A←5 ⋄ ⍵÷0}", "∇F X;A;G\nL:A←X\nG←{⍵}\nB←3\nC←4\n⎕IO←0\nD 1", "X←9")
	m.Do("F 7", plenty)
	m.Do("F 8", plenty)
	shows(t, m, "A B C X ⎕IO ⍵", "5 3 4 8 0 1")
	groups := len(m.Suspended())
	text := "⎕IO←0\n⎕CT←0\n⎕PP←10\nA←1\nB←3\nC←4\nD←{A←5 ⋄ ⍵÷0}\n∇F X;A;G\nL:A←X\nG←{⍵}\nB←3\nC←4\n⎕IO←0\nD 1\n∇\nX←9\n"
	saves(t, m, text)
	if len(m.Suspended()) != groups || groups != 2 {
		t.Error("it was reset", groups)
	}
	shows(t, m, "A X", "5 8")
	back := loads(t, text)
	if !workspace.Same(m, back) || len(back.Suspended()) > 0 {
		t.Error("it did not come back")
	}
}

func TestSaveErrors(t *testing.T) { // P16.2, P2
	feed, long, nabla := "'a\nb'", "600⍴7", "∇%\n∇"
	for _, c := range []struct {
		lines []string
		want  api.Errno
	}{
		{[]string{"B←" + feed}, api.ErrForm}, {[]string{"B←" + long}, api.Limit}, {[]string{strings.ReplaceAll(nabla, "%", "B")}, api.ErrForm}, {[]string{"A←" + long, "B←" + feed}, api.Limit}, {[]string{"A←" + feed, "B←" + long}, api.ErrForm}, {[]string{"B←" + long, strings.ReplaceAll(nabla, "%", "A")}, api.ErrForm}, {[]string{"A←" + long, strings.ReplaceAll(nabla, "%", "B")}, api.Limit}, {[]string{"∇B\n⍝\n1"}, api.OK}, {[]string{"B←{'\n'}", "C←" + long}, api.ErrForm},
	} {
		m := of(t, append([]string{"A0←1", "Z←2"}, c.lines...)...)
		got, e := workspace.Save(m)
		if e != c.want || e != api.OK && got != "" {
			t.Errorf("%q: %.40q %d, want %d", c.lines, got, e, c.want)
		}
	}
	m := machine.New()
	if _, e, _ := m.Define("B", "⍝ a\nb"); e != api.OK {
		t.Fatal(e)
	}
	if got, e := workspace.Save(m); got != "" || e != api.ErrForm {
		t.Errorf("%q %d", got, e)
	}
}

func TestLoad(t *testing.T) { // P16.2
	for text, want := range map[string]string{
		"": environment, "\n": environment, "\n \n\t\n": environment, "A←1 2": environment + "A←1 2\n", "A←1 2\n": environment + "A←1 2\n", "A←1\nA←A+1\n\n⍝ A": environment + "A←2\n", "⎕IO←0": "⎕IO←0\n⎕CT←0\n⎕PP←10\n", "∇F\n1\n∇": environment + "∇F\n1\n∇\n", " ∇ F \n)OFF\n∇": environment + "∇ F \n)OFF\n∇\n",
		")VARS\n)FNS\n)SI\n)RESET\n)ERASE\nA←1\n)ERASE A\n→": environment, "A←1 ⋄ B←2 ⋄ A←{⍵}1": environment + "A←1\nB←2\n", "A←'a' ⎕EA '1÷0' ⋄ a←3\n": "",
	} {
		if want == "" {
			refuses(t, text, api.ErrForm, 1)
			continue
		}
		saves(t, loads(t, text), want)
	}
}

func TestWrongTexts(t *testing.T) { // P16.2, P2
	for _, c := range []struct {
		text string
		line int
	}{
		{"A←1\n1÷0\n", 2}, {"1", 1}, {"\n\n⍳0\n1\n", 3}, {"A←1\n⎕←A", 2}, {"A←1\n)VARS", 2}, {"∇F\n∇\n)FNS\n", 3}, {")CLEAR", 1}, {"A←1\n)OFF\nB←2", 2}, {")OFF", 1}, {"\n)OFF\n", 2}, {")FOO", 1}, {")vars", 1}, {")ERASE A", 1}, {"\xff", 1}, {"A←1\r\nB←2", 1}, {"∇", 1}, {"∇1\nA\n∇\n1", 3}, {"∇F\n'\n∇", 3}, {"A←1\n∇A\n∇\n", 3},
		// A definition that does not end.
		{"∇F", 2}, {"∇F\n", 2}, {"∇F\n1", 3}, {"∇F\n1\n", 3}, {"A←1\n\n∇F\n\n\n", 6}, {"∇F\n∇∇\n", 3}, {"∇F\n)OFF\n", 3},
		{"∇F" + strings.Repeat("\n", api.MaxLines), api.MaxLines + 1}, {"∇F" + strings.Repeat("\n", api.MaxLines+1), api.MaxLines + 1}, {"∇F" + strings.Repeat("\n", api.MaxLines-1) + "\n∇\n1", api.MaxLines + 2},
		{strings.Repeat("1", api.MaxLine+1), 1}, {"A←1\n⍝" + strings.Repeat(" ", api.MaxLine), 2},
	} {
		refuses(t, c.text, api.ErrForm, c.line)
	}
}

// TestLengthOfTexts: just 1048576 bytes, and one more.
func TestLengthOfTexts(t *testing.T) { // P16.2, P5
	const most = 1048576
	row := "⍝" + strings.Repeat("x", 1020) + "\n" // 1024 bytes
	just := "A←5\n" + strings.Repeat("\n", 1018) + strings.Repeat(row, most/1024-1)
	if len(just) != most {
		t.Fatal(len(just))
	}
	shows(t, loads(t, just), "A", "5")
	refuses(t, just+"\n", api.ErrLong, 0)
	refuses(t, just+"1", api.ErrLong, 0)
	refuses(t, "1\n"+just, api.ErrLong, 0)
	refuses(t, just[:most-2]+"\n1", api.ErrForm, 1019+1023+1)
	refuses(t, strings.Repeat("\xff", most+1), api.ErrLong, 0)
	refuses(t, strings.Repeat("1", most), api.ErrForm, 1)
}

// TestStepsOfLoad: each line has MaxSteps of them.
func TestStepsOfLoad(t *testing.T) { // P16.2, E1
	loop := "∇C N\nL:" + strings.Repeat("⋄", 300) + "→(0<N←N-1)/L\n∇\n"
	rounds := api.MaxSteps / 310
	loads(t, loop+"C "+strconv.Itoa(rounds)+"\nC "+strconv.Itoa(rounds)+"\n")
	refuses(t, loop+"C 5\nC "+strconv.Itoa(rounds*2)+"\n", api.ErrForm, 5)
}

// TestSaveTooLong: Save tells a text of any length, but Load takes no longer one than it says.
func TestSaveTooLong(t *testing.T) { // P16.2
	m := machine.New()
	lines := make([]string, api.MaxLines)
	for i := range lines {
		lines[i] = "⍝" + strings.Repeat("x", api.MaxLine-len("⍝"))
	}
	for i := range 5 {
		lines[0] = "F" + strconv.Itoa(i)
		if _, e, _ := m.Define(lines...); e != api.OK {
			t.Fatal(e)
		}
	}
	text, e := workspace.Save(m)
	if e != api.OK || len(text) <= 1048576 {
		t.Fatal(e, len(text))
	}
	refuses(t, text, api.ErrLong, 0)
}

// TestLoadApart: what was loaded is the caller's, and nothing is kept of it.
func TestLoadApart(t *testing.T) { // P3, P4, P6
	text := environment + "A←1 2\n∇F\n1\n∇\n"
	one, other := loads(t, text), loads(t, text)
	one.Do("A[1]←9 ⋄ ⎕IO←0 ⋄ B←3", plenty)
	one.Erase("F")
	saves(t, other, text)
	saves(t, loads(t, text), text)
	if workspace.Same(one, other) {
		t.Error("they are the same")
	}
}
