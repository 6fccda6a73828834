package machine_test

import (
	"strconv"
	"strings"
	"testing"

	"glyph/api"
	"glyph/machine"
)

// TestTradfns: with and without result, left and right argument.
func TestTradfns(t *testing.T) { // P13.1
	m := of(t, "R←A F B\nR←A B", "R←M B\nR←B+1", "R←N\nR←7", "S B\nB", "P\n'p'", "R←A Q B\nR←⎕NC 'A'", "R←V B\n→B/0\nR←B", "A W B\nA\nB", "E\n")
	for line, want := range map[string]string{
		"1 F 2": "1 2", "M 1": "2", "M M 1": "3", "N": "7", "N+N": "14", "1+N": "8", "N N": "7 7", "(⍳7)[N]": "7", "S 5": "5", "P": "p", "1 Q 2": "2", "Q 2": "0", "V 0": "0", "M¨1 2": "2 3", "1 F¨2 3": " 1 2   1 3", "1 2 W 3": "1 2|3", "1 F⍨2": "2 1", "F/1 2 3": " 1  2 3", "1∘.F 2 3": " 1 2   1 3", "F/[1]1 2": " 1 2",
	} {
		shows(t, m.Fork(), line, want)
	}
	silent(t, m, "E")
	silent(t, m, "V 1")
	for _, marked := range []string{"1‸M 2", "1‸S 2", "1‸M¨2", "‸M⍨2", "‸M[1]2", "1‸M[1]2"} {
		errs(t, m, marked, api.Syntax)
	}
	errs(t, m, "1+‸V 1", api.Value)
	// Without a left argument its name has nothing.
	fails(t, m, "F 1", api.Value, in("F", 1, "R←‸A B"))
	m.Reset(true)
	// While its statement is done a function may become another one, or none.
	errs(t, m.Fork(), "‸N+⍎'⎕EX ''N'''", api.Syntax)
	errs(t, m.Fork(), "‸N+⍎'⎕EX ''N'' ⋄ N←5'", api.Syntax)
	errs(t, m.Fork(), "‸N+⍎'⎕FX ''R←N X'' ''R←X'' ⋄ 1'", api.Syntax)
	errs(t, m.Fork(), "‸M⍎'⎕EX ''M'''", api.Syntax)
	errs(t, m.Fork(), "‸M⍎'⎕FX ''M'' ⋄ 1'", api.Syntax)
	errs(t, m.Fork(), "1‸F⍎'⎕FX ''R←F X'' ''R←X'' ⋄ 1'", api.Syntax)
	shows(t, m.Fork(), "M⍎'⎕FX ''R←M X'' ''R←X×10'' ⋄ 3'", "30")
	shows(t, m.Fork(), "N+⍎'⎕EX ''N'' ⋄ N←{5} ⋄ 1'", "6")
}

// TestLines: a function's lines are done as lines are.
func TestLines(t *testing.T) { // P13.1
	m := of(t, "R←F X\n⍝ nothing\n\nL: R←1 ⋄ R←R+X ⍝ behind ⋄ R←9\n 'a' ⋄ 'b'\nM:", "R←G X\nR←X ⋄ ÷X-1 ⋄ R", "D\n(1")
	shows(t, m, "F 2", "a|b|3")
	takes(t, m, "F 2", 10)
	fails(t, m, "G 1", api.Domain, in("G", 1, "‸÷X-1"))
	fails(t, m, "D", api.Syntax, in("D", 1, "(1‸"))
	if n := m.Reset(true); n != 2 {
		t.Error(n)
	}
	shows(t, m, "G 3", "1r2|3|3")
	if o := m.Do("D", 1); o.Errno != api.Interrupt || o.Where != in("D", 1, "‸(1") {
		t.Error(o)
	}
}

func TestBranches(t *testing.T) { // P13.1
	m := of(t, "R←F X;I\nR←'start'\n→X\nR←'three'\n→0\nR←'five'", "R←C N\nR←0\nL:→(R≥N)/0\nR←R+1\n→L", "R←B X\nR←1\n→X ⋄ R←2\nR←R+10", "R←K X\n→(M,N)[X]\nM:R←'m' ⋄ →0\nN:R←'n'")
	for line, want := range map[string]string{
		"F 3": "three", "F 5": "five", "F 0": "start", "F 6": "start", "F 1000": "start", "F ¯1": "start", "F 10*300": "start", "F -10*300": "start", "F ⍳0": "three", "F ''": "three", "F 0 2⍴5": "three", "F 5 3": "five", "F 5 'a'": "five", "F 1 1⍴5": "five", "C 7": "7", "C 0": "0", "B ⍳0": "12", "B 3": "11", "B 0": "1", "B 99": "1", "K 1": "m", "K 2": "n",
	} {
		shows(t, m.Fork(), line, want)
	}
	for _, arg := range []string{"'a'", "1.5", "⊂1 2", "'ab'", "'a' 5", "(1 2)3"} {
		fails(t, m, "F "+arg, api.Domain, in("F", 2, "‸→X"))
	}
	done(t, m, "G X\n→Y\n→{}1\n→X÷0")
	fails(t, m, "G 1", api.Value, in("G", 1, "→‸Y"))
	done(t, m, "Y←⍳0")
	fails(t, m, "G 1", api.Value, in("G", 2, "→‸{}1"))
	if n := m.Reset(true); n != 8 {
		t.Error(n)
	}
	// Guards are for dfns.
	done(t, m, "H X\nZ:5")
	errs(t, m, "1‸:2", api.Syntax)
	shows(t, m, "H 1", "5") // there it is a label
	done(t, m, "I X\n(⎕←X):5")
	fails(t, m, "I 1", api.Syntax, in("I", 1, "(⎕←X)‸:5"))
}

// TestLeave: → alone in a function leaves the whole line, and is no error.
func TestLeave(t *testing.T) { // P13.1, E5
	m := of(t, "N\n'n' ⋄ → ⋄ 'not'\n'not'", "R←F X;A\nA←X\nN\n'not'\nR←1", "R←G X\nR←1÷X", "A←9")
	for line, want := range map[string]string{
		"N ⋄ 'not'": "n", "1 ⋄ F 5 ⋄ 'not'": "1|n", "F¨1 2 3": "n", "1+F 1": "n", "{F ⍵ ⋄ 'not'}1": "n", "⍎'F 1 ⋄ ''not'''": "n", "'''not''' ⎕EA 'F 1'": "n", "'N' ⎕EA '1÷0'": "n", "B←F 5": "n", "+/[F 1]1 2": "n",
	} {
		f := m.Fork()
		shows(t, f, line, want)
		suspended(t, f)
		shows(t, f, "A ⋄ ⎕NC 'B'", "9|0")
	}
	// Groups that are suspended stay.
	fails(t, m, "G 0", api.Domain, in("G", 1, "R←1‸÷X"))
	shows(t, m, "F 5", "n")
	suspended(t, m, []machine.Where{in("G", 1, "R←1‸÷X")})
}

func TestDfns(t *testing.T) { // P13.1
	m := of(t, "F←{⍵≤1:1 ⋄ ⍵×∇ ⍵-1}", "S X\n", "G←{⍺←10 ⋄ ⍺+⍵}", "A←7")
	for line, want := range map[string]string{
		"{⍵}5": "5", "3{⍺-⍵}5": "¯2", "{⍵ ⋄ 6}5": "5", "{⋄ ⋄ ⍵ ⋄ 6}5": "5", "{1 ⋄}5": "1", "F 5": "120", "F¨1 2 3": "1 2 6", "G 1": "11", "2 G 1": "3", "{x←⍵ ⋄ x×x}3": "9", "{x←1 2 3 ⋄ x[2]←⍵ ⋄ x}3": "1 3 3", "{f←{⍵+1} ⋄ f f ⍵}3": "5", "{{⍵+1}⍵}3": "4", "{⍵{⍺+⍵}2}3": "5", "2{⍺}¨1 2": "2 2", "{⍵=0:'z' ⋄ 'n'}¨0 1": "zn", "{⍎'⍵+1'}3": "4", "{⍵>3:⍵ ⋄ ⍎'∇ ⍵+1'}1": "4",
		"{A}1": "7", "{A←⍵ ⋄ A}1 ⋄ A": "1|7", "{A+1}1 ⋄ A": "8|7", "{(B)←⍵ ⋄ B}3 ⋄ B": "3|3", "{⎕←⍵ ⋄ 1}5": "5|1", "{⎕PP←⍵ ⋄ ⎕PP}5": "5", "+{⍵}5": "5",
	} {
		shows(t, m.Fork(), line, want)
	}
	for _, line := range []string{"{}5", "{ }5", "{⋄}5", "{x←⍵}5", "{x←1 2 ⋄ x[1]←⍵}5", "{f←{⍵}}5", "{⍵:1}0", "{S ⍵}5", "{S ⍵ ⋄ 5}5", "{0:1 ⋄ 0:2}5"} {
		silent(t, m, line)
	}
	shows(t, m, "A", "7")
	suspended(t, m)
}

// TestDefaults: ⍺← is done just if ⍺ has nothing.
func TestDefaults(t *testing.T) { // P13.1
	m := machine.New()
	for line, want := range map[string]string{
		"{⍺←⎕←5 ⋄ ⍺+⍵}1": "5|6", "2{⍺←⎕←5 ⋄ ⍺+⍵}1": "3", "2{⍺←1÷0 ⋄ ⍺+⍵}1": "3", "{⍺←5 ⋄ ⍺←6 ⋄ ⍺}1": "5", "{⍺←{⍵} ⋄ ⎕NC '⍺'}1": "3", "2{⍺←{⍵} ⋄ ⍺}1": "2", "{⍵←5 ⋄ ⍵}1": "5", "{⍵←⍵+1 ⋄ ⍵}1": "2", "{⍺←1 2 ⋄ ⍺[1]←⍵ ⋄ ⍺}9": "9 2", "2{(⍺)←5 ⋄ ⍺}1": "2", "2{x←⍺←5 ⋄ ⍺}1": "5", "{⍺←1 ⋄ {⍺←2 ⋄ ⍺}⍵}5": "2", "3{⍎'⍺←5' ⋄ ⍺}1": "5",
	} {
		shows(t, m.Fork(), line, want)
	}
	shows(t, m, "3{z←⍎'⍺←5' ⋄ ⍺}1", "5") // in a text it is done as in a line
	fails(t, m, "{⍺+⍵}1", api.Value, in("{}", 1, "‸⍺+⍵"))
	// Another ⍺ outside is not that of the call.
	done(t, m, "⍺←100")
	shows(t, m, "{⍺←1 ⋄ ⍺+⍵}1", "2")
	m.Reset(true)
}

func TestGuards(t *testing.T) { // P13.1
	m := of(t, "S X\n")
	for line, want := range map[string]string{
		"{⍵:'y' ⋄ 'n'}1": "y", "{⍵:'y' ⋄ 'n'}0": "n", "{⍵:'y' ⋄ 'n'},1": "y", "{⍵:'y' ⋄ 'n'}1 1⍴0": "n", "{⍵:'y' ⋄ 'n'}1=1": "y", "{⍵:⎕←1 ⋄ ⎕←2}0": "2", "{⍵:⎕←1 ⋄ ⎕←2}1": "1|1", "{x←⍵:x ⋄ 2}1": "1", "{⍵:x←5 ⋄ 2}1": "5", "{0:1÷0 ⋄ 2}1": "2",
	} {
		shows(t, m, line, want)
	}
	for arg, e := range map[string]api.Errno{"2": api.Domain, "¯1": api.Domain, "0.5": api.Domain, "'a'": api.Domain, "⊂1 1": api.Domain, "⍳0": api.Length, "''": api.Length, "1 1": api.Length, "'ab'": api.Length, "2 2⍴1": api.Length, "10*300": api.Domain} {
		fails(t, m, "{⍵:'y' ⋄ 'n'}"+arg, e, in("{}", 1, "⍵‸:'y'"))
		m.Reset(true)
	}
	shows(t, m, "{1 ⋄ 2:3}1", "1")
	for text, w := range map[string]machine.Where{
		"{Z:1}1": in("{}", 1, "‸Z:1"), "{⋄1:Z}1": in("{}", 2, "1:‸Z"), "{1:S ⍵}1": in("{}", 1, "1:‸S ⍵"), "{(S ⍵):1}1": in("{}", 1, "(‸S ⍵):1"),
	} {
		fails(t, m, text, api.Value, w)
		m.Reset(true)
	}
	fails(t, m, "{f←{⍵} ⋄ 1:g←{⍵}}1", api.Value, in("{}", 2, "1:g‸←{⍵}"))
	shows(t, m, "⎕NC 'g'", "3")
	// Branches are for tradfns.
	fails(t, m, "{x←1 ⋄ →0}1", api.Syntax, in("{}", 2, "‸→0"))
	fails(t, m, "{→}1", api.Syntax, in("{}", 1, "‸→"))
	fails(t, m, "{→⎕←5}1", api.Syntax, in("{}", 1, "‸→⎕←5"))
}

// TestDfnLocals: names that stand ahead of an arrow in its text are a dfn's own.
func TestDfnLocals(t *testing.T) { // P13.1, E5
	m := of(t, "A←1", "B←2 3", "F←{⍵}")
	for line, want := range map[string]string{
		"{A←⍵ ⋄ B←A ⋄ B}5": "5", "{0:A←5 ⋄ ⎕NC 'A'}0": "0", "{B[1]←⍵ ⋄ B}9": "9 3", "{'A←5' ⋄ 1}0": "A←5", "{x←{A←⍵ ⋄ A}⍵ ⋄ ⎕NC 'A'}5": "0", "{⎕NC 'F' ⋄ F←{⍵}}0": "0", "{A ← ⍵ ⋄ A}5": "5", "{⎕IO←⍵ ⋄ ⎕IO}0": "0", "{A∆←⍵ ⋄ A}5": "1",
	} {
		f := m.Fork()
		shows(t, f, line, want)
		shows(t, f, "A", "1")
	}
	shows(t, m, "{z←⍎'A←⍵' ⋄ A}5 ⋄ A", "5|5") // not in a text that is quoted
	// Each name counts once: so there may be many arrows.
	many := strings.Repeat("x←1⋄", 100)
	shows(t, m, "{"+many+"x}1", "1")
	list := func(n int) string {
		var out strings.Builder
		for i := range n {
			out.WriteString("a" + strconv.Itoa(i) + "←⍵⋄")
		}
		return out.String()
	}
	shows(t, m, "{"+list(2*api.MaxLocals-2)+"a0}7", "7")
	errs(t, m, "‸{"+list(2*api.MaxLocals-1)+"a0}7", api.Limit)
	suspended(t, m)
}

// TestManyLabels: a function may have more names than a frame.
func TestManyLabels(t *testing.T) { // P13.1
	m := machine.New()
	lines := []string{"R←F X"}
	for i := range 2*api.MaxLocals - 2 {
		lines = append(lines, "L"+strconv.Itoa(i)+":R←L"+strconv.Itoa(i))
	}
	done(t, m, strings.Join(lines, "\n"))
	shows(t, m, "F 1", strconv.Itoa(2*api.MaxLocals-2))
	lines[0] = "R←A G X"
	done(t, m, strings.Join(lines, "\n"))
	errs(t, m, "1 ‸G 1", api.Limit)
	errs(t, m, "‸G 1", api.Limit)
}

func TestSelf(t *testing.T) { // P13.1
	m := of(t, "R←T X\nR←∇ X", "F←{⍵>0:(∇ ⍵-1),⍵ ⋄ ⍳0}", "N\n∇ 1")
	shows(t, m, "F 3", "1 2 3")
	shows(t, m, "{⍵>0:1+∇ ⍵-1 ⋄ 0}5", "5")
	shows(t, m, "2{⍵>0:⍺+⍺ ∇ ⍵-1 ⋄ 0}5", "10")
	shows(t, m, "{⍵>2:⍵ ⋄ {⍵>9:⍵ ⋄ ∇ ⍵×2}⍵}1", "16") // that which is innermost
	shows(t, m, "{1<≢⍵:∇¨⍵ ⋄ -⍵}1 2", "¯1 ¯2")
	errs(t, m, "‸∇ 1", api.Syntax)
	errs(t, m, "1‸∇¨1 2", api.Syntax)
	errs(t, m, "‸⍎'∇ 1'", api.Syntax)
	fails(t, m, "T 1", api.Syntax, in("T", 1, "R←‸∇ X"))
	fails(t, m, "{1÷⍵}0", api.Domain, in("{}", 1, "1‸÷⍵"))
	errs(t, m, "‸∇ 1", api.Syntax) // one that is suspended does not go on
	// It is the function that was called, whatever its name is by then.
	shows(t, m, "G←{⍵=0:'end' ⋄ x←⎕NC 'G' ⋄ ∇ ⍵-1} ⋄ G 2", "end")
}

// TestLocalised: behind a call its names are what they were.
func TestLocalised(t *testing.T) { // P13.1, E5, P13.5
	m := of(t, "R←A F B;X;Y\nL:X←A ⋄ Y←B\nR←X Y\nZ←L", "A←1", "B←2", "R←3", "X←4", "Y←{⍵}", "L←6")
	shows(t, m, "7 F 8 ⋄ A B R X L Z ⋄ Y 5", "7 8|1 2 3 4 6 1|5")
	done(t, m, "G N;Y\nY←N\nY÷0", "K N;G;X\nX←N\nG←X\nH", "H\nG")
	fails(t, m, "G 5", api.Domain, in("G", 2, "Y‸÷0"))
	shows(t, m, "Y N ⋄ ⎕NC 'Y'", "5 5|2")
	if m.Reset(false) != 1 {
		t.Error("reset")
	}
	shows(t, m, "Y 5 ⋄ ⎕NC 'N'", "5|0")
	shows(t, m, "K 8", "8") // what a name is depends on who calls
	fails(t, m, "H", api.Syntax, in("H", 1, "‸G"))
}

// TestFrames: just MaxFrames calls may be there, those that are suspended too.
func TestFrames(t *testing.T) { // P13.1, P5
	m := of(t, "F←{⍵=1:1 ⋄ 1+∇ ⍵-1}", "R←T N\nR←1\n→(N=1)/0\nR←1+T N-1", "Q\n→(I=0)/0\nI←I-1\nQ", "S X\n1÷X")
	last := strconv.Itoa(api.MaxFrames)
	for _, name := range []string{"F ", "T "} {
		shows(t, m, name+last, last)
		f := m.Fork()
		o := f.Do(name+strconv.Itoa(api.MaxFrames+1), plenty)
		group := f.Suspended()
		if o.Errno != api.Limit || len(group) != 1 || len(group[0]) != api.MaxFrames || group[0][0] != o.Where || f.Table().Depth() != api.MaxFrames {
			t.Error(name, o, len(group))
		}
		if name == "F " && (o.Where != in("F", 2, "1+‸∇ ⍵-1") || group[0][api.MaxFrames-1] != o.Where) {
			t.Error(o)
		}
		// Now there is room for none.
		errs(t, f, "‸F 1", api.Limit)
		errs(t, f, "‸Q", api.Limit)
		errs(t, f, "1+‸{⍵}1", api.Limit)
		shows(t, f, "'''none''' ⎕EA 'F 1' ⋄ ⍎'2'", "none|2")
		if n := f.Reset(false); n != api.MaxFrames {
			t.Error(n)
		}
		shows(t, f, name+last, last)
	}
	done(t, m, "I←"+strconv.Itoa(api.MaxFrames-1))
	silent(t, m, "Q")
	done(t, m, "I←"+last)
	fails(t, m, "Q", api.Limit, in("Q", 3, "‸Q"))
	m.Reset(true)
	for range api.MaxFrames {
		fails(t, m, "S 0", api.Domain, in("S", 1, "1‸÷X"))
	}
	errs(t, m, "‸S 1", api.Limit)
	if len(m.Suspended()) != api.MaxFrames || m.Reset(false) != 1 {
		t.Error("groups")
	}
	shows(t, m, "F 1", "1")
	fails(t, m, "F 2", api.Limit, in("F", 2, "1+‸∇ ⍵-1"))
}
