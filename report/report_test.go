package report_test

import (
	"math"
	"slices"
	"strconv"
	"strings"
	"testing"
	"unicode/utf8"

	"glyph/api"
	"glyph/machine"
	"glyph/report"
)

// texts are all that Text tells of the errors that have a text of their own.
func texts() map[api.Errno]string {
	return map[api.Errno]string{
		api.Syntax: "SYNTAX ERROR", api.Value: "VALUE ERROR", api.Domain: "DOMAIN ERROR", api.Rank: "RANK ERROR", api.Length: "LENGTH ERROR", api.Index: "INDEX ERROR", api.Axis: "AXIS ERROR", api.Limit: "LIMIT ERROR", api.Interrupt: "INTERRUPT", api.ErrDefn: "DEFN ERROR",
	}
}

func TestText(t *testing.T) { // P14.1
	if got := report.Text(api.OK); got != "" {
		t.Error(got)
	}
	for e, want := range texts() {
		if got := report.Text(e); got != want {
			t.Error(e, got, want)
		}
	}
	for e, want := range map[api.Errno]string{
		10: "ERROR 10", 19: "ERROR 19", api.ErrNil: "ERROR 20", api.ErrRange: "ERROR 21", api.ErrForm: "ERROR 22", api.ErrNone: "ERROR 23", api.ErrFull: "ERROR 24", api.ErrLong: "ERROR 25", api.ErrText: "ERROR 26", api.ErrName: "ERROR 27", 29: "ERROR 29", 1000000: "ERROR 1000000",
		-1: "ERROR ¯1", -9: "ERROR ¯9", -28: "ERROR ¯28", math.MaxInt: "ERROR 9223372036854775807", math.MinInt: "ERROR ¯9223372036854775808",
	} {
		if got := report.Text(e); got != want {
			t.Error(int(e), got, want)
		}
	}
}

func TestParse(t *testing.T) { // P14.1, P14.3
	for e, text := range texts() {
		if got, ok := report.Parse(text); got != e || !ok {
			t.Error(text, got, ok)
		}
	}
	for e := api.Errno(-40); e < 60; e++ {
		_, named := texts()[e]
		got, ok := report.Parse(report.Text(e))
		if ok != named || ok && got != e || !ok && got != api.OK {
			t.Error(e, got, ok)
		}
	}
	for _, s := range []string{"", " ", "ERROR", "ERROR 20", "ERROR ¯1", "ERROR 1", "SYNTAX", "syntax error", " SYNTAX ERROR", "SYNTAX ERROR ", "SYNTAX  ERROR", "INTERRUPT ERROR", "INTERRUPT\n", "DEFN", "OK", "LIMIT ERROR\xff", "\xff", "SYNTAX ERRO"} {
		if got, ok := report.Parse(s); ok || got != api.OK {
			t.Errorf("%q is %v %v", s, got, ok)
		}
	}
}

func TestPrefix(t *testing.T) { // P14.2
	for _, c := range []struct {
		w    machine.Where
		want string
	}{
		{machine.Where{}, "      "}, {machine.Where{Line: 5, Text: "1", At: 3}, "      "}, {machine.Where{Name: "F", Line: 2}, "F[2] "}, {machine.Where{Name: "LONG_∆", Line: 10, Text: "x", At: 9}, "LONG_∆[10] "}, {machine.Where{Name: "{}", Line: 1}, "{}[1] "}, {machine.Where{Name: "F"}, "F[0] "}, {machine.Where{Name: "F", Line: -3}, "F[¯3] "},
		{machine.Where{Name: "F", Line: math.MinInt}, "F[¯9223372036854775808] "}, {machine.Where{Name: " ", Line: 1}, " [1] "}, {machine.Where{Name: "\xff", Line: 1}, "\xff[1] "},
	} {
		if got := report.Prefix(c.w); got != c.want {
			t.Errorf("%+v has %q, want %q", c.w, got, c.want)
		}
	}
}

func TestLines(t *testing.T) { // P14.2, P14.4
	for _, c := range []struct {
		e    api.Errno
		w    machine.Where
		want []string
	}{
		{api.Length, machine.Where{Text: "1 2+1 2 3", At: 3}, []string{"LENGTH ERROR", "      1 2+1 2 3", "         ^"}},
		{api.Domain, machine.Where{Name: "F", Line: 2, Text: "A÷0", At: 1}, []string{"DOMAIN ERROR", "F[2] A÷0", "      ^"}},
		{api.Value, machine.Where{Name: "∆∆", Line: 12, Text: "⍺←⍵", At: 2}, []string{"VALUE ERROR", "∆∆[12] ⍺←⍵", "         ^"}},
		{api.Syntax, machine.Where{Text: "(", At: 1}, []string{"SYNTAX ERROR", "      (", "       ^"}},
		{api.Syntax, machine.Where{Text: "(", At: 2}, []string{"SYNTAX ERROR", "      (", "       ^"}},
		{api.Syntax, machine.Where{Text: "⍋⍒", At: math.MaxInt}, []string{"SYNTAX ERROR", "      ⍋⍒", "        ^"}},
		{api.Syntax, machine.Where{Text: "12", At: -1}, []string{"SYNTAX ERROR", "      12", "      ^"}},
		{api.Syntax, machine.Where{Text: "12", At: math.MinInt}, []string{"SYNTAX ERROR", "      12", "      ^"}},
		{api.Interrupt, machine.Where{}, []string{"INTERRUPT", "      ", "      ^"}},
		{api.Interrupt, machine.Where{At: 5}, []string{"INTERRUPT", "      ", "      ^"}},
		{api.ErrNil, machine.Where{Name: "{}", Line: -1, Text: "x", At: 0}, []string{"ERROR 20", "{}[¯1] x", "       ^"}},
		{-5, machine.Where{Text: "a\xff\xfeb", At: 3}, []string{"ERROR ¯5", "      a\xff\xfeb", "         ^"}},
		{api.Syntax, machine.Where{Text: "a\xff", At: 9}, []string{"SYNTAX ERROR", "      a\xff", "        ^"}},
	} {
		if got := report.Lines(c.e, c.w); !slices.Equal(got, c.want) {
			t.Errorf("%d at %+v: %q, want %q", c.e, c.w, got, c.want)
		}
	}
	if got := report.Lines(api.OK, machine.Where{Name: "F", Line: 1, Text: "x", At: 1}); len(got) > 0 {
		t.Error(got)
	}
}

// TestCaret: it stands below the character of the statement that the place tells.
func TestCaret(t *testing.T) { // P14.4
	text := "R←⍺ F⌽'é∆'[⍵;]"
	characters := []rune(text)
	for _, name := range []string{"", "F", "∆LONG", "{}"} {
		for at, c := range characters {
			l := report.Lines(api.Rank, machine.Where{Name: name, Line: 7, Text: text, At: at})
			below := utf8.RuneCountInString(l[2]) - 1
			if got := []rune(l[1])[below]; got != c || !strings.HasSuffix(l[2], "^") || strings.Trim(l[2], " ") != "^" {
				t.Error(name, at, l)
			}
		}
	}
}

func TestOutcome(t *testing.T) { // P14.2
	m := machine.New()
	for _, c := range []struct {
		line string
		want []string
	}{
		{"1 2+1 2 3", []string{"LENGTH ERROR", "      1 2+1 2 3", "         ^"}},
		{"A←5", nil}, {"", nil}, {"A ⋄ 2 2⍴⍳4", []string{"5", "1 2", "3 4"}},
		{"1 ⋄ 2 ⋄ B", []string{"1", "2", "VALUE ERROR", "      B", "      ^"}},
		{"⎕FX 'F X' '⎕←X' 'X÷0'", []string{"F"}},
		{"'a' ⋄ F 3", []string{"a", "3", "DOMAIN ERROR", "F[2] X÷0", "      ^"}},
		{"{⍵⍴'é'+1}3", []string{"DOMAIN ERROR", "{}[1] ⍵⍴'é'+1", "           ^"}},
	} {
		if got := report.Outcome(m.Do(c.line, 100)); !slices.Equal(got, c.want) {
			t.Errorf("%s: %q, want %q", c.line, got, c.want)
		}
	}
	if got := report.Outcome(m.Do("1 ⋄ 2", 1)); !slices.Equal(got, []string{"1", "INTERRUPT", "      2", "      ^"}) {
		t.Errorf("%q", got)
	}
	var none *machine.Machine
	if got := report.Outcome(none.Do("1", 1)); !slices.Equal(got, []string{"ERROR 20", "      ", "      ^"}) {
		t.Errorf("%q", got)
	}
	if got := report.Outcome(machine.Outcome{}); len(got) > 0 {
		t.Error(got)
	}
	// Where there is no error nothing is told of the place.
	if got := report.Outcome(machine.Outcome{Shown: []string{"", "x"}, Where: machine.Where{Name: "F", Text: "y"}, Used: 5}); !slices.Equal(got, []string{"", "x"}) {
		t.Error(got)
	}
}

// TestApart: what is handed in stays, and what is answered is the caller's.
func TestApart(t *testing.T) { // P3
	shown := []string{"a", "b", "spare"}
	o := machine.Outcome{Shown: shown[:2], Errno: api.Rank, Where: machine.Where{Text: "x"}}
	got := report.Outcome(o)
	if len(got) != 5 || shown[2] != "spare" {
		t.Error(got, shown)
	}
	got[0] = "changed"
	if shown[0] != "a" || report.Outcome(o)[0] != "a" {
		t.Error(shown)
	}
	for n := range 3 {
		l := report.Lines(api.Limit, machine.Where{Text: strconv.Itoa(n)})
		l[0] = "changed"
		if again := report.Lines(api.Limit, machine.Where{Text: strconv.Itoa(n)}); again[0] != "LIMIT ERROR" {
			t.Error(again)
		}
	}
}
