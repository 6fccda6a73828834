package session_test

import (
	"slices"
	"strings"
	"testing"

	"glyph/session"
)

func TestCommands(t *testing.T) { // P15.1
	if got := session.Commands(); !slices.Equal(got, []string{")VARS", ")FNS", ")SI", ")RESET", ")ERASE", ")CLEAR", ")OFF"}) {
		t.Error(got)
	}
	for _, command := range session.Commands() {
		if got := session.New(plenty).Line(command); len(got) > 0 && got[0] != "CLEAR WS" {
			t.Error(command, got)
		}
	}
}

func TestIncorrectCommands(t *testing.T) { // P15.1
	s := of(t, "A←1\n∇F\n1÷0\n∇")
	s.Line("F")
	before := picture(s)
	for _, line := range []string{
		")", " ) ", ")FOO", "))VARS", ") VARS", ")\tOFF", ")VARS)", ")VARSX", ")VAR", ")OFF⍝", ")\xff", ")VARS\r", ")OFF\u00a0", ")∇", ")1", ")VARS\n",
		")vars", ")Vars", ")fns", ")si", ")reset", ")erase", ")erase A", ")clear", ")off", ")oFF", ")ſI",
		")VARS A", ")FNS F", ")SI 1", ")RESET A", ")CLEAR A", ")OFF A", ")OFF )OFF", ")VARS ⍝ all", "\t)FNS\tF\t", ")CLEAR WS", ")NONE A",
	} {
		tells(t, s, line, "INCORRECT COMMAND")
	}
	if !slices.Equal(before, picture(s)) {
		t.Error(picture(s))
	}
}

func TestVarsAndFns(t *testing.T) { // P15.1
	s := session.New(plenty)
	for _, line := range []string{")VARS", ")FNS", " )VARS", "\t)FNS \t"} {
		tells(t, s, line, "")
	}
	s.Line("B←1")
	tells(t, s, ")VARS", "B")
	tells(t, s, ")FNS", "")
	s.Line("Z←{⍵}")
	tells(t, s, ")FNS", "Z")
	for _, line := range []string{"∆←1 ⋄ A←2 ⋄ a←3 ⋄ _←4 ⋄ A1←5 ⋄ ⍵←6", "∇F X;B;Q", "L:Q←1", "G←{⍵}", "X÷0", "∇"} {
		tells(t, s, line, "")
	}
	tells(t, s, ")VARS", "A A1 B _ a ∆ ⍵")
	tells(t, s, ")FNS", "F Z")
	s.Line("F 9")
	// Those that there are now: B has nothing, Q and X have something, and a label is neither.
	tells(t, s, "  )VARS  ", "A A1 Q X _ a ∆ ⍵")
	tells(t, s, ")FNS", "F G Z")
	s.Line("{⍺←7 ⋄ ⍵÷0}8")
	tells(t, s, ")VARS", "A A1 Q X _ a ∆ ⍵ ⍺")
	tells(t, s, ")RESET", "")
	tells(t, s, ")VARS", "A A1 B _ a ∆ ⍵")
	tells(t, s, ")FNS", "F G Z")
}

func TestStateIndicator(t *testing.T) { // P15.1, E4
	s := of(t, "∇R←F X\nR←1\nR←1+G X\n∇\n∇R←G X\nR←{2+K ⍵}X\n∇\n∇R←K X\nR←X\n\nR←X÷X-X\n∇\nD←{x←⍵ ⋄ 3×K x}")
	tells(t, s, ")SI", "")
	tells(t, s, "1÷0", "DOMAIN ERROR|      1÷0|       ^") // without a call there is none
	tells(t, s, ")SI", "")
	tells(t, s, "K 1", "DOMAIN ERROR|K[3] R←X÷X-X|        ^")
	tells(t, s, ")SI", "K[3]*")
	tells(t, s, "F 5", "DOMAIN ERROR|K[3] R←X÷X-X|        ^")
	tells(t, s, ")SI", "K[3]|{}[1]|G[1]|F[2]*|K[3]*")
	s.Line("D 9")
	tells(t, s, "\t)SI ", "K[3]|D[2]*|K[3]|{}[1]|G[1]|F[2]*|K[3]*")
	tells(t, s, "→", "")
	tells(t, s, ")SI", "K[3]|{}[1]|G[1]|F[2]*|K[3]*")
	tells(t, s, "→ ⋄ →", "")
	tells(t, s, ")SI", "")
}

func TestReset(t *testing.T) { // P15.1, P15.4, E5
	s := of(t, "A←1 2\nB←3\n∇F X;A\nA←X\nB←X\nG X\n∇\n∇G X;C\nC←X\nX÷0\n∇")
	tells(t, s, ")RESET", "") // without calls
	outside := picture(s)
	for range 3 {
		s.Line("F 5")
	}
	tells(t, s, "A B C", "5 5 5")
	tells(t, s, ")RESET", "")
	tells(t, s, ")SI", "")
	tells(t, s, "A ⋄ B ⋄ ⎕NC 2 1⍴'CX'", "1 2|5|0 0")
	s.Line("B←3")
	if !slices.Equal(picture(s), outside) {
		t.Error(picture(s))
	}
	tells(t, s, ")RESET", "")
	if !slices.Equal(picture(s), outside) {
		t.Error(picture(s))
	}
}

func TestErase(t *testing.T) { // P15.1
	s := of(t, "A←1\nB←2\nC←3\nD←{⍵}\n∇F X;C\nL:C←X\nX÷0\n∇\n∇N\n∇")
	for _, c := range []struct{ line, want string }{
		{")ERASE", ""}, {" )ERASE \t", ""}, {")ERASE A", ""}, {")VARS", "B C"}, {")ERASE A", "NOT ERASED: A"}, {")ERASE Z", "NOT ERASED: Z"}, {")ERASE  Z\tB  Y ", "NOT ERASED: Z Y"}, {")VARS", "C"}, {")ERASE D N", ""}, {")FNS", "F"},
		{")ERASE 1 ⎕IO ∇ ) A⍝ \xff 'C' C,F", "NOT ERASED: 1 ⎕IO ∇ ) A⍝ \xff 'C' C,F"}, {")VARS", "C"}, {")ERASE c", "NOT ERASED: c"},
		{"A←1", ""}, {")ERASE A A Z A", "NOT ERASED: A Z A"}, // the first one had something
		{"F 5", "DOMAIN ERROR|F[2] X÷0|      ^"}, {")ERASE F", "NOT ERASED: F"}, {")FNS", "F"}, {")SI", "F[2]*"},
		{"C", "5"}, {")ERASE C F X", "NOT ERASED: F"}, {")VARS", ""}, {")ERASE C", "NOT ERASED: C"}, {"L", "1"}, {")ERASE L", ""}, {"⎕NC 'L'", "0"},
		{")RESET", ""}, {"C", "3"}, {")ERASE F C", ""}, {")VARS", ""}, {")FNS", ""},
	} {
		tells(t, s, c.line, c.want)
	}
	many := strings.Repeat(" Q", 5000)
	tells(t, s, ")ERASE"+many, "NOT ERASED:"+many)
}

func TestClear(t *testing.T) { // P15.1
	s := session.New(5)
	tells(t, s, ")CLEAR", "CLEAR WS")
	for _, line := range []string{"A←1", "⎕IO←0", "⎕CT←1r2", "⎕PP←3", "∇F X", "X÷0", "∇"} {
		tells(t, s, line, "")
	}
	s.Line("F 1")
	tells(t, s, ")SI", "F[1]*")
	tells(t, s, " )CLEAR\t", "CLEAR WS")
	if !slices.Equal(picture(s), picture(session.New(0))) {
		t.Error(picture(s))
	}
	tells(t, s, "⎕IO ⎕CT ⎕PP", "1 0 10")
	tells(t, s, "1+1+1+1+1", "5")
	tells(t, s, "1+1+1+1+1+1", "INTERRUPT|      1+1+1+1+1+1|       ^") // the steps are what they were
}

func TestOff(t *testing.T) { // P15.1
	s := of(t, "A←1\n∇F\n1÷0\n∇")
	s.Line("F")
	if s.Off() {
		t.Error("it was not left")
	}
	tells(t, s, " )OFF ", "")
	left := picture(s)
	for _, line := range []string{"1", "A←2", "1÷0", "∇G", "1", "∇", "∇", ")VARS", ")FOO", ")CLEAR", ")RESET", ")ERASE A", ")OFF", "", "\xff", "F"} {
		tells(t, s, line, "")
		if !s.Off() || s.Defining() || !slices.Equal(picture(s), left) {
			t.Error(line, picture(s))
		}
	}
}
