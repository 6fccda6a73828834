package machine_test

import (
	"slices"
	"strings"
	"testing"

	"glyph/api"
	"glyph/array"
	"glyph/machine"
	"glyph/rat"
)

func TestNew(t *testing.T) { // P13.1
	m := machine.New()
	if e := m.Env(); e.IO != 1 || rat.Sign(e.CT) != 0 || !rat.Right(e.CT) || e.PP != 10 {
		t.Error(e)
	}
	if l := m.Table().List(api.Free, api.Label, api.Variable, api.Function); len(l) > 0 || m.Table().Depth() != 0 {
		t.Error(l)
	}
	suspended(t, m)
	if n := m.Reset(true) + m.Reset(false); n != 0 {
		t.Error(n)
	}
	shows(t, m, "⎕IO ⎕CT ⎕PP", "1 0 10")
}

func TestNil(t *testing.T) { // P13.1, P13.2, P1
	var m *machine.Machine
	if o := m.Do("1", 10); o.Errno != api.ErrNil || len(o.Shown) > 0 || o.Where != (machine.Where{}) || o.Used != 0 {
		t.Error(o)
	}
	if name, e, line := m.Define("F"); name != "" || e != api.ErrNil || line != 0 {
		t.Error(name, e, line)
	}
	if name, e, line := m.Define("1", "'"); name != "" || e != api.ErrNil || line != 0 {
		t.Error(name, e, line)
	}
	if m.Erase("A", "B") != 0 || m.Suspended() != nil || m.Reset(true) != 0 || m.Reset(false) != 0 || m.Table() != nil || m.Fork() != nil {
		t.Error("nil has something")
	}
	if e := m.Env(); e.IO != 0 || e.PP != 0 || e.CT.Num != nil || e.CT.Den != nil || e.CT.Below {
		t.Error(e)
	}
}

// TestExamples: those of the chapter, and the ten of the whole.
func TestExamples(t *testing.T) {
	m := of(t, "A←3")
	shows(t, m, "A+1", "4")
	done(t, m, "F←{⍵≤1:1 ⋄ ⍵×∇ ⍵-1}")
	shows(t, m, "F 5", "120")
	errs(t, m, "1 2‸+1 2 3", api.Length)
	shows(t, m, "'5' ⎕EA '1÷0'", "5")
	for line, want := range map[string]string{
		"2+3 4 5": "5 6 7", "1÷3": "1r3", "¯1 2×3": "¯3 6", "+/⍳5": "15", `×\1 2 3 4`: "1 2 6 24", "1 2∘.×3 4": "3 4|6 8", "'abc'='abd'": "1 1 0", "⍴2 3⍴⍳6": "2 3",
		"A←3 1 2 ⋄ A[⍋A]": "1 2 3", "{⍵≤1:1 ⋄ ⍵×∇ ⍵-1}5": "120", "⍎'1+1'": "2", "⍕1r3": "1r3", "⍴⍕1r3": "3", "(⍳3)(2 2⍴'abcd')": " 1 2 3   ab|         cd", "⍴(⍳3)(2 2⍴'abcd')": "2", "X←7 ⋄ 'X' ⎕EA '1÷0'": "7",
	} {
		shows(t, machine.New(), line, want)
	}
	m = of(t, "R←F X\n→(X=0)/0\nR←X\n'behind'")
	silent(t, m, "F 0")
	shows(t, m, "F 2", "behind|2")
}

// TestParts: they are done one behind the other, until one has an error.
func TestParts(t *testing.T) { // P13.1, P13.4
	m := machine.New()
	shows(t, m, "1 ⋄ 2 ⋄⋄ 3 ⍝ ⋄ 4", "1|2|3")
	shows(t, m, "A←1 ⋄ A←A+1 ⋄ 'a⋄b' ⋄ {⍵ ⋄ 5}A ⋄ A", "a⋄b|2|2")
	fails(t, m, "A←3 ⋄ A ⋄ B←A÷0 ⋄ A←4 ⋄ A", api.Domain, at("B←A‸÷0"), "3")
	shows(t, m, "A ⋄ ⎕NC 'B'", "3|0")
	fails(t, m, "  A  ⋄  1 +  'a'  ⍝ no", api.Domain, at("1 ‸+  'a'"), "3")
}

func TestNothing(t *testing.T) { // P13.1
	m := machine.New()
	for line, steps := range map[string]int{"": 1, " ": 1, "\t ": 1, "⍝": 1, "  ⍝ 1 ⋄ 2": 1, "⋄": 2, " ⋄ ⋄ ⍝": 3} {
		silent(t, m, line)
		takes(t, m, line, steps)
	}
	if o := m.Do("", 0); o.Errno != api.Interrupt || o.Where != (machine.Where{}) || o.Used != 0 {
		t.Error(o)
	}
}

// TestCut: a line that cannot be cut is not begun.
func TestCut(t *testing.T) { // P13.1
	great := strings.Repeat("9", 400)
	for _, c := range []struct {
		line  string
		e     api.Errno
		place int
	}{
		{"A←1 ⋄ 'ab", api.Syntax, 6}, {"A←1 ⋄ ⍋$", api.Syntax, 7}, {"A←1\xff", api.Syntax, 3}, {"A←1\xe2\x8d", api.Syntax, 3}, {"⍝ \xff", api.Syntax, 2}, {"A←1 ⋄ 1.2.3", api.Syntax, 6}, {"A←1 ⋄ ¯", api.Syntax, 6},
		{"A←1 ⋄ " + strings.Repeat("x", api.MaxName+1), api.Syntax, 6}, {"A←1 ⋄ 5+" + great, api.Limit, 8}, {"A←1\n", api.Syntax, 3}, {"A←1 ⍞", api.Syntax, 4}, {"{'}", api.Syntax, 1},
		{strings.Repeat(" ", api.MaxLine+1), api.Syntax, 0}, {"A←1" + strings.Repeat("⍝", api.MaxLine), api.Syntax, 0},
	} {
		for _, steps := range []int{0, plenty} {
			m := machine.New()
			o := m.Do(c.line, steps)
			if o.Errno != c.e || o.Where != (machine.Where{Text: c.line, At: c.place}) || o.Used != 0 || len(o.Shown) > 0 || m.Table().Class("A") != api.Free {
				t.Errorf("%q: %+v", c.line, o)
			}
		}
	}
}

// TestLongLines: just MaxLine bytes may be.
func TestLongLines(t *testing.T) { // P13.1
	m := machine.New()
	line := "1" + strings.Repeat(" ", api.MaxLine-1)
	shows(t, m, line, "1")
	fails(t, m, line+" ", api.Syntax, machine.Where{Text: line + " "})
	line = "'" + strings.Repeat("⍵", (api.MaxLine-2)/3) + "'"
	shows(t, m, line, strings.Repeat("⍵", (api.MaxLine-2)/3))
	sum := strings.Repeat("1+", (api.MaxLine-1)/2) + "1"
	shows(t, m, sum, "512")
	takes(t, m, sum, 512)
}

// TestSyntax: statements that are none.
func TestSyntax(t *testing.T) { // P13.1
	m := of(t, "R←F X\nR←X", "N\n5")
	for _, marked := range []string{"2(‸", "1‸)", "‸+", "‸¨1", "1 ‸.", "A‸←", "‸⎕XY", "1 ‸F", "F‸←5", "N‸←5", "5‸←6", "F←‸{⍵}", "1+‸{⍵}", "{1‸", "‸}", "‸[1]", "1:2‸:3", "→1‸→2", "A[1‸)", "(A‸:B)", "A 1‸←5", "1‸;2"} {
		errs(t, m, marked, api.Syntax)
	}
	deep := strings.Repeat("(", api.MaxNest)
	shows(t, m, deep+"1"+strings.Repeat(")", api.MaxNest), "1")
	errs(t, m, deep+"‸(1"+strings.Repeat(")", api.MaxNest+1), api.Limit)
	fails(t, m, "1 ⋄ 2 ⋄ 1) ⋄ 3", api.Syntax, at("1‸)"), "1", "2")
	takes(t, m, "1 ⋄ 2 ⋄ 1) ⋄ 3", 3)
}

func TestSteps(t *testing.T) { // P13.1, P13.3, P13.6
	m := of(t, "W\nL:→L", "R←C N;I\nI←0\nL:I←I+1\n→(I<N)/L\nR←I", "N0\n", "N1\n5", "F←{⍵≤1:1 ⋄ ⍵×∇ ⍵-1}", "A←3 1 2")
	for line, steps := range map[string]int{
		"1": 1, "1 2 3": 1, "A": 1, "A[2]": 1, "A[2]←5": 1, "B←A": 1, "⎕": 1, "1+1": 2, "1+-1": 3, "+/1 2 3": 4, "-/1 2 3 4": 5, "1∘.+1 2": 4, "1 ⋄ 2": 2, "+⍨1": 3, "-¨1 2": 4, "1+[1]1 2": 2, "+/[1]1 2": 3, "+/[0+1]1 2": 4,
		"⍎'1'": 3, "⍎''": 3, "⍎'1+1'": 4, "⍎'1 ⋄ 2'": 4, "'5' ⎕EA '6'": 3, "'5' ⎕EA '1÷0'": 5, "⎕NC'A'": 2, "N0": 2, "N1": 2, "C 1": 9, "C 2": 14, "{⍵}1": 3, "{}1": 3, "{⋄⋄⍵}1": 5, "F 1": 4, "F 2": 10, "1:2": 1, "→": 1, "1 2+1 2 3": 2, "1)": 1, "⍎'('": 3, "⎕ES 3": 2, "Z": 1, "C": 1,
	} {
		takes(t, m, line, steps)
	}
	for _, steps := range []int{0, -1, -1 << 62} {
		if o := m.Do("A←5 ⋄ A", steps); o.Errno != api.Interrupt || o.Where != at("‸A←5") || o.Used != 0 || len(o.Shown) > 0 {
			t.Error(steps, o)
		}
	}
	shows(t, m, "A", "3 1 2")
}

// TestMostSteps: what does not end is interrupted when MaxSteps are taken, at most.
func TestMostSteps(t *testing.T) { // P13.1, P13.3
	for _, steps := range []int{api.MaxSteps, api.MaxSteps + 1, 1<<63 - 1} {
		m := of(t, "W\nL:→L")
		if o := m.Do("W", steps); o.Errno != api.Interrupt || o.Used != api.MaxSteps || o.Where != in("W", 1, "‸→L") || m.Reset(true) != 1 {
			t.Error(steps, o)
		}
	}
}

// TestMoreSteps: with more steps a line does the same; with fewer ones it begins so.
func TestMoreSteps(t *testing.T) { // P13.3, P13.6
	m := of(t, "G X;Y\nY←X\nX\n1+Y[2]←9\n⎕←Y\nY÷0")
	for _, line := range []string{"1 ⋄ G 1 2 3 ⋄ 5", "⍎'1 ⋄ G 1 2'", "'5+''G 1 2''⎕EA''1÷0''' ⎕EA 'G 1 2'", "{⍵>0:∇ ⍵-1 ⋄ G 1 2}3"} {
		whole, after := m.Fork(), []string{}
		full := whole.Do(line, plenty)
		after = picture(whole)
		for steps := range full.Used + 3 {
			less := m.Fork()
			o := less.Do(line, steps)
			switch {
			case steps < full.Used && (o.Errno != api.Interrupt || o.Used != steps || !slices.Equal(o.Shown, full.Shown[:len(o.Shown)])):
				t.Error(line, steps, o)
			case steps >= full.Used && (o.Errno != full.Errno || o.Where != full.Where || o.Used != full.Used || !slices.Equal(o.Shown, full.Shown) || !slices.Equal(picture(less), after)):
				t.Error(line, steps, o)
			}
		}
	}
}

// TestPlaces: of errors in an expression, which is done from the right.
func TestPlaces(t *testing.T) { // P13.1
	m := of(t, "A←3 1 2", "S X\nX", "N\n1")
	for marked, e := range map[string]api.Errno{
		"1+2‸÷0": api.Domain, "(1÷0)+A‸+1 2": api.Length, "(1‸÷0)+A": api.Domain, "B+1‸÷0": api.Domain, "‸B+1": api.Value, "A+‸B": api.Value, "1 ‸B 2": api.Value, "B ‸C": api.Value, "1 ‸⎕": api.Domain, "‸-'a'": api.Domain, "1‸[1]": api.Rank, "A‸[4]": api.Index, "A‸['a']": api.Domain,
		"A[1‸÷0]": api.Domain, "A‸[1;1]": api.Rank, "‸B[1]": api.Value, "B[‸C]": api.Value, "A[⎕;‸B]": api.Value, "A[‸⎕;1]": api.Domain, "A←‸B": api.Value, "B[1]‸←5": api.Value, "A[4]‸←5": api.Index, "A[1 2]‸←5 6 7": api.Length, "A[B]←‸C": api.Value, "A[‸B]←5": api.Value, "C[‸B]←5": api.Value,
		"A‸+.×1 2": api.Length, "A‸∘.×'a'": api.Domain, "1 2‸+¨1 2 3": api.Length, "A‸+[3]2 2⍴1": api.Axis, "‸⌽[3]A": api.Axis, "‸+/[3]A": api.Axis, "‸÷¨1 0": api.Domain, "‸∇1": api.Syntax, "1‸⍎'1'": api.Syntax, "‸⍕[1]5": api.Syntax, "+/[‸B]A": api.Value, "+/[1‸÷0]A": api.Domain, "1‸↑[1]A": api.Syntax,
		"→‸B": api.Value, "‸→A": api.Syntax, "1‸:2": api.Syntax, "B‸:2": api.Syntax, "‸⍎'1÷0'": api.Domain, "1+‸⍎'A''b'": api.Syntax,
	} {
		errs(t, m.Fork(), marked, e)
	}
	fails(t, m, "1+S 5", api.Value, at("1+‸S 5"), "5")
	fails(t, m, "1+N", api.Value, at("1+‸N"), "1")
	fails(t, m, "⎕←2+⎕←1 ⋄ 3 ⋄ 4÷0", api.Domain, at("4‸÷0"), "1", "3", "3")
}

// TestShown: what parts tell is shown as show has it.
func TestShown(t *testing.T) { // P13.1
	m := of(t, "A←2 2⍴1 20 3 4", "S X\n5", "R←F X\nR←X\nX")
	for line, want := range map[string]string{
		"A": "1 20|3  4", "'abc'": "abc", "(1 2)'ab'": " 1 2   ab", "'x' ⋄ A[1;] ⋄ 'y'": "x|1 20|y", "⎕←5": "5", "⎕←⎕←5": "5|5", "1+⎕←5": "5|6", "S 1": "5", "F 1": "1|1", "B←F 2": "2", "F F 3": "3|3|3", "{⎕←⍵ ⋄ ⍵+1}5": "5|6", "⍎'⎕←1 ⋄ 2 ⋄ 3'": "1|3", "⍎'S 1 ⋄ 4'": "5|4",
	} {
		shows(t, m, line, want)
	}
	for _, line := range []string{"B←5", "A[1;1]←5", "B←C←5", "G←{⍵}", "", "{}5", "0 2⍴5", "(B←5)", "{B←⍵}5", "→"} {
		silent(t, m, line)
	}
	if o := m.Do("''", 5); !slices.Equal(o.Shown, []string{""}) {
		t.Error(o)
	}
	fails(t, m, "1 ⋄ 2 ⋄ S 1 ⋄ 1+⎕←'a' ⋄ 3", api.Domain, at("1‸+⎕←'a'"), "1", "2", "5", "a")
}

// TestTooGreatToShow: a value that has no display within the limits.
func TestTooGreatToShow(t *testing.T) { // P13.1
	m := of(t, "A←1000⍴10*99")
	errs(t, m, "‸A", api.Limit)
	errs(t, m, "‸,A", api.Limit)
	errs(t, m, "⎕‸←A", api.Limit)
	errs(t, m, "1 2+⍴⎕‸←A", api.Limit)
	silent(t, m, "B←A")
	m = of(t, "A←1000⍴10*99", "S X\n1\nX")
	fails(t, m, "S A", api.Limit, in("S", 2, "‸X"), "1")
}

// TestAnswersApart: what is answered is the caller's.
func TestAnswersApart(t *testing.T) { // P3
	m := of(t, "R←F X\n⎕←1\nR←X÷0", "A←1 2", "⎕CT←1r3")
	o := m.Do("F 1", 10)
	o.Shown[0] = "changed"
	e := m.Env()
	e.CT.Num[0], e.CT.Den[0] = 7, 9
	l := m.Suspended()
	l[0][0].Name = "changed"
	l[0] = nil
	table := m.Table()
	table.SetVar("A", array.Int(5))
	table.Pop()
	suspended(t, m, []machine.Where{in("F", 2, "R←X‸÷0")})
	shows(t, m, "A ⎕CT", " 1 2  1r3")
	lines := []string{"G", "1"}
	m.Define(lines...)
	lines[1] = "2"
	shows(t, m, "G", "1")
}
