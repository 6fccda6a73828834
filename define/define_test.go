package define_test

import (
	"math"
	"regexp"
	"slices"
	"strings"
	"testing"

	"glyph/api"
	"glyph/define"
	"glyph/lex"
)

func TestHeader(t *testing.T) { // P12.1
	heads(t, "F", api.Fn{Name: "F"})
	heads(t, "F B", api.Fn{Name: "F", Right: "B"})
	heads(t, "A F B", api.Fn{Name: "F", Left: "A", Right: "B"})
	heads(t, "R←F", api.Fn{Name: "F", Result: "R"})
	heads(t, "R←F B", api.Fn{Name: "F", Result: "R", Right: "B"})
	heads(t, "R←A F B;X", api.Fn{Name: "F", Result: "R", Left: "A", Right: "B", Locals: []string{"X"}})
	heads(t, "F;X", api.Fn{Name: "F", Locals: []string{"X"}})
	heads(t, "F B;Z;A;M", api.Fn{Name: "F", Right: "B", Locals: []string{"Z", "A", "M"}})
	heads(t, " \tR ←\tA  F\tB ; X;\tY ⍝ R←A F B;X;X", api.Fn{Name: "F", Result: "R", Left: "A", Right: "B", Locals: []string{"X", "Y"}})
	heads(t, "F⍝", api.Fn{Name: "F"})
	heads(t, "∆_1←_ r2 f;F;x9", api.Fn{Name: "r2", Result: "∆_1", Left: "_", Right: "f", Locals: []string{"F", "x9"}})
	most := strings.Repeat("∆", api.MaxName)
	heads(t, most, api.Fn{Name: most})
	locals := numbered("L", api.MaxLocals)
	heads(t, "R←A F B;"+strings.Join(locals, ";"), api.Fn{Name: "F", Result: "R", Left: "A", Right: "B", Locals: locals})
	heads(t, "F"+strings.Repeat(" ", api.MaxLine-1), api.Fn{Name: "F"})
}

func TestHeadersThatAreNone(t *testing.T) { // P12.1, P2
	for _, s := range []string{
		"", " \t", "⍝ F", "1F", "1", "←", "R←", "←F", "R←←F", "R←S←F", "A B F C", "R←A B F C", "F←", "F B←", ";", ";X", "R←;X", "F;", "F;;X", "F;X;", "F;X Y", "F X;Y Z", "F B;1", "F;X←", "F X;Y;;Z",
		"F;⍵", "F ⍵", "⍺ F ⍵", "⍵", "⍺←F", "∇F", "F∇", "F:", "L:F", "(F)", "F(B)", "F B C D", "'F'", "F 'B'", "F 1", "1 F B", "F+", "F B + C", "⎕IO", "⎕IO←F", "R←⎕FX B", "F[1]", "F B;X[1]", "{⍵}", "F←{⍵}", "F ⋄ G", "→F", "F.G",
		"F F", "F←F", "R←R", "R←F R", "R←R F B", "R←A F R", "A F A", "F F B", "A F F", "F;F", "F B;B", "A F B;A", "R←F;R", "F;X;X", "F;X;Y;X", "R←A F B;X;Y;B",
		"F $", "F 'a", "F 1r", "é", "F\n", "\xff", "F \xff", "F ⍝ \xff", strings.Repeat("A", api.MaxName+1), "F " + strings.Repeat("A", api.MaxName+1), "F;" + strings.Repeat("A", api.MaxName+1),
		"F;" + strings.Join(numbered("L", api.MaxLocals+1), ";"), "R←A F B;" + strings.Join(numbered("L", 100), ";"), "F" + strings.Repeat(" ", api.MaxLine), "F ⍝" + strings.Repeat("a", api.MaxLine), strings.Repeat("F", 1<<20),
	} {
		headsNot(t, s)
	}
}

// kinds writes a header's tokens with one letter each, so that a pattern tells whether they are right.
func kinds(tokens []lex.Token) string {
	var out strings.Builder
	for _, one := range tokens[:len(tokens)-1] {
		switch {
		case one.Kind == lex.Name:
			out.WriteString("n")
		case one.Text == "←" || one.Text == ";":
			out.WriteString(one.Text)
		default:
			out.WriteString("?")
		}
	}
	return out.String()
}

func TestHeadersAsTheWordsHaveThem(t *testing.T) { // P12.1
	right := regexp.MustCompile(`^(n←)?n?n?n(;n)*$`)
	d := dice(2463534242)
	taken := 0
	for range 60000 {
		line := ""
		for range d.next(9) {
			line += d.choice("A", "B", "C", "F", "G", "X", "Y", "Z", "_", "←", "R←", ";", ";", ";P", ";Q", "⍵", "1", "+", "⍝") + d.choice(" ", " ", "", "\t")
		}
		tokens, _, _ := lex.All(line)
		var names []string
		for _, one := range tokens {
			if one.Kind == lex.Name {
				names = append(names, one.Text)
			}
		}
		slices.Sort(names)
		want := right.MatchString(kinds(tokens)) && len(slices.Compact(slices.Clone(names))) == len(names)
		f, e := define.Header(line)
		if (e == api.OK) != want {
			t.Fatalf("%q %+v %v", line, f, e)
		}
		if !want {
			headsNot(t, line)
			continue
		}
		taken++
		again := append(define.Locals(f), f.Name) // each name is told, and just once
		slices.Sort(again)
		if !slices.Equal(again, names) || (f.Result != "") != strings.Contains(kinds(tokens), "←") || len(f.Locals) != strings.Count(kinds(tokens), ";") || f.Left != "" && f.Right == "" {
			t.Fatalf("%q %+v", line, f)
		}
	}
	if taken < 1000 {
		t.Error("too few are taken", taken)
	}
}

func TestMake(t *testing.T) { // P12.1, P12.5
	makes(t, api.Fn{Name: "F", Result: "R", Left: "A", Right: "B", Locals: []string{"X"}, Labels: []string{"L", "L2"}, At: []int{1, 3}}, "R←A F B;X", "L:→(B=0)/L2", "R←A", "L2:X←1")
	makes(t, api.Fn{Name: "F"}, "F")
	makes(t, api.Fn{Name: "F"}, "F ⍝ a", "", " \t", "⍝ L:", "→0", "1:2", ":1", "⍵:1", "⎕IO:1", "(L:1)", "→L:1", "'L:1'", "A←'L:'", "A B:1", "A+B:1", "L⍝:", "1 L:1", "+", "(", "}{", "{⍵:1}")
	makes(t, api.Fn{Name: "F", Labels: []string{"A", "B", "c", "∆", "_1", "G"}, At: []int{1, 2, 3, 5, 6, 7}}, "F", "A:", "B :1", "\tc\t:\t⍝ a", "", "∆::", "_1:B:C", " G:⍝")
	makes(t, api.Fn{Name: "F", Right: "f", Labels: []string{"a", "A"}, At: []int{2, 3}}, "F f", "a", "a:A", "A:a")
	makes(t, api.Fn{Name: "F", Labels: []string{strings.Repeat("A", api.MaxName)}, At: []int{1}}, "F", strings.Repeat("A", api.MaxName)+":1")
	long := "⍝" + strings.Repeat("a", api.MaxLine-3)
	makes(t, api.Fn{Name: "F"}, "F", long, " A ")
}

func TestManyLines(t *testing.T) { // P12.1, P5
	full := api.Fn{Name: "F"}
	lines := []string{"F"}
	for i, label := range numbered("L", api.MaxLines-1) {
		lines = append(lines, label+":→"+label)
		full.Labels, full.At = append(full.Labels, label), append(full.At, i+1)
	}
	makes(t, full, lines...)
	wrong(t, 0, append(slices.Clone(lines), "A")...)
	wrong(t, 0, append(slices.Clone(lines), "'a")...)
	wrong(t, 0, slices.Repeat([]string{"F"}, 100000)...)
	lines[api.MaxLines-1] = "L0:1"
	wrong(t, api.MaxLines-1, lines...)
	wrong(t, 0)
	wrong(t, 0, []string(nil)...)
}

func TestLinesThatAreWrong(t *testing.T) { // P12.1, P2
	for _, line := range []string{
		"'a", "1r", "$", "é", "\xff", "A ⍝ \xff", "A\n", strings.Repeat("A", api.MaxName+1), strings.Repeat("A", api.MaxName+1) + ":1", "L:'a", "L:$", strings.Repeat("+", api.MaxLine+1), "⍝" + strings.Repeat("a", api.MaxLine), "¯",
		"R:1", "A:1", "F:1", "B:1", "X:1", "Y:", " \tY\t:", "K:1", "K :",
	} {
		wrong(t, 2, "R←A F B;X;Y", "K:1", line)
		wrong(t, 2, "R←A F B;X;Y", "K:1", line, "→0", "'a", "F:1")
		wrong(t, 4, "R←A F B;X;Y", "→0", "K:1", "", line)
	}
	wrong(t, 1, "F X", "X:1")
	wrong(t, 1, "F", "F:1")
	wrong(t, 3, "F", "L:1", "M:1", "L:2", "M:2") // of two that are alike the second one is wrong
	wrong(t, 0, "", "F")
	wrong(t, 0, "{⍵}")
	wrong(t, 0, "{⍵}", "1")
}

func TestLabelsAreThoseOfTheLines(t *testing.T) { // P12.5, P12.1, P12.2
	label := regexp.MustCompile(`^[ \t]*([A-Za-z_∆][A-Za-z_∆0-9]*)[ \t]*:((?s).*)$`)
	d := dice(88172645463325252)
	taken := 0
	for range 20000 {
		lines := []string{d.choice("F", "R←F", "F X;Y", "R←X F Y")}
		used := []string{"F", "R", "X", "Y"}
		wanted, first := api.Fn{}, 0
		for i := range d.next(5) {
			line := ""
			for range d.next(6) {
				line += d.choice("A", "B", "X1", "L", "M", "N", ":", ":", ":", " ", "\t", "1", "+", "'", "'a'", "⍝", "$", "⍵")
			}
			lines = append(lines, line)
			_, e, _ := lex.All(line)
			found := label.FindStringSubmatch(line)
			if first == 0 && (e != api.OK || found != nil && slices.Contains(used, found[1])) {
				first = i + 1
			}
			if found != nil {
				used = append(used, found[1])
				wanted.Labels, wanted.At = append(wanted.Labels, found[1]), append(wanted.At, i+1)
			}
		}
		if first > 0 {
			wrong(t, first, lines...)
			continue
		}
		taken++
		f, e, at := define.Make(lines...)
		if e != api.OK || at != 0 || !slices.Equal(f.Labels, wanted.Labels) || !slices.Equal(f.At, wanted.At) || !slices.Equal(f.Lines, lines) {
			t.Fatalf("%q %+v %v %v", lines, f, e, at)
		}
		for i := 1; i < len(lines); i++ {
			want := lines[i]
			if found := label.FindStringSubmatch(want); found != nil {
				want = found[2]
			}
			if got, e := define.Body(f, i); e != api.OK || got != strings.Trim(want, " \t") {
				t.Fatalf("%q %q %v", lines[i], got, e)
			}
		}
	}
	if taken < 5000 {
		t.Error("too few are taken", taken)
	}
}

func TestBody(t *testing.T) { // P12.2
	cases := []struct{ line, want string }{
		{"", ""}, {" \t", ""}, {"A←1", "A←1"}, {" \tA ← 1\t ", "A ← 1"}, {"L:", ""}, {" L :\t", ""}, {"L:A←1", "A←1"}, {"\tL \t:  A←1 ⍝ b \t", "A←1 ⍝ b"}, {"⍝ L: 1 ", "⍝ L: 1"}, {"L⍝:1", "L⍝:1"}, {"L :⍝ 1", "⍝ 1"},
		{"L::1", ":1"}, {"L:M:1", "M:1"}, {"1:2", "1:2"}, {":1", ":1"}, {"⍵:1", "⍵:1"}, {"'a:b'", "'a:b'"}, {"L:'a:b '", "'a:b '"}, {"L M:1", "L M:1"}, {"(L:1)", "(L:1)"}, {"∆:⍵ ⋄ 1", "⍵ ⋄ 1"}, {"A ⋄ L:1", "A ⋄ L:1"}, {"{⍵:1}", "{⍵:1}"},
	}
	lines := []string{"R←F B"}
	for _, c := range cases {
		f := made("R←F B", c.line)
		if got, e := define.Body(f, 1); e != api.OK || got != c.want {
			t.Errorf("%q %q %v", c.line, got, e)
		}
		if c.want == strings.Trim(c.line, " \t") {
			lines = append(lines, c.line)
		}
	}
	f := made(lines...)
	for i, line := range lines[1:] {
		if got, e := define.Body(f, i+1); e != api.OK || got != strings.Trim(line, " \t") {
			t.Error(i, got, e)
		}
	}
	for _, line := range []int{0, -1, len(lines), len(lines) + 1, math.MinInt, math.MaxInt} {
		if got, e := define.Body(f, line); e != api.ErrRange || got != "" {
			t.Error(line, got, e)
		}
	}
	for _, f := range []api.Fn{{}, {Lines: []string{}}, {Lines: []string{"F"}}} {
		for _, line := range []int{-1, 0, 1} {
			if got, e := define.Body(f, line); e != api.ErrRange || got != "" {
				t.Error(f, line, got, e)
			}
		}
	}
}

func TestBodyOfOthers(t *testing.T) { // P12.2, P1, P2
	d, _ := define.Dfn("{⍵}")
	for _, line := range []int{-1, 0, 1, 2} { // ahead of ErrRange
		if got, e := define.Body(d, line); e != api.ErrForm || got != "" {
			t.Error(line, got, e)
		}
	}
	f := api.Fn{Lines: []string{"no header", "L:'a ", "\xff", " $\t"}} // lines that Make would not take have a front and ends all the same
	for i, want := range []string{"'a", "\xff", "$"} {
		if got, e := define.Body(f, i+1); e != api.OK || got != want {
			t.Errorf("%q %v, want %q", got, e, want)
		}
	}
}

func TestDfn(t *testing.T) { // P12.1
	for _, s := range []string{
		"{}", "{⍵}", "{⍵+1 ⋄ 2}", "{⍵≤1:1 ⋄ ⍵×∇ ⍵-1}", "{{⍵}⍵}", "{{}{{}}}", "{'}'}", "{'{'}", "{''''}", "{ }", "{1} ⍝ }", "{1}⍝{", " \t{⍵}\t ", "{(]:;}", "{⋄}", "{⎕NONE}", "{A←'it''s }{'}",
		strings.Repeat("{", 500) + strings.Repeat("}", 500), "{" + strings.Repeat(" ", api.MaxLine-2) + "}",
	} {
		want := api.Fn{Lines: []string{s}, Braces: true}
		if got, e := define.Dfn(s); e != api.OK || !alike(got, want) {
			t.Errorf("%q %+v %v", s, got, e)
		}
	}
}

func TestDfnsThatAreNone(t *testing.T) { // P12.1, P12.2, P2
	for _, s := range []string{
		"", " ", "{", "}", "}{", "{{", "}}", "{⍵", "{{⍵}", "⍵}", "{⍵}}", "{⍵}{⍵}", "{⍵} {⍵}", "{}{}", "{⍵}1", "1{⍵}", "A←{⍵}", "{⍵}⍝{\xff", "({⍵})", "F", "F X", "⍝{}", "{⍝}", "{⍵ ⍝ }", "{'}", "{'a}'", "'{}'", "{1r}", "{$}", "{⍵}\n", "{\n}", "{\xff}", "\xff{}",
		"{" + strings.Repeat("A", api.MaxName+1) + "}", "{" + strings.Repeat(" ", api.MaxLine-1) + "}", strings.Repeat("{", 513) + strings.Repeat("}", 513),
	} {
		if got, e := define.Dfn(s); e != api.ErrDefn || !alike(got, api.Fn{}) {
			t.Errorf("%q %+v %v", s, got, e)
		}
		if got, e := define.Parts(api.Fn{Lines: []string{s}, Braces: true}); e != api.ErrForm || len(got) != 0 {
			t.Errorf("%q %+v %v", s, got, e)
		}
	}
}

func TestParts(t *testing.T) { // P12.2
	cases := []struct {
		text string
		want []string
	}{
		{"{}", []string{""}}, {"{ \t}", []string{""}}, {"{⍵}", []string{"⍵"}}, {"{⍵+1 ⋄ 2}", []string{"⍵+1", "2"}}, {" { ⍵ + 1\t⋄ 2 }\t⍝ ⋄ 3 }", []string{"⍵ + 1", "2"}}, {"{⋄}", []string{"", ""}}, {"{1⋄⋄2⋄}", []string{"1", "", "2", ""}},
		{"{{1⋄2}⍵ ⋄ {3⋄{4⋄5}}}", []string{"{1⋄2}⍵", "{3⋄{4⋄5}}"}}, {"{'⋄}'⋄'{'}", []string{"'⋄}'", "'{'"}}, {"{⍵≤1:1 ⋄ ⍵×∇ ⍵-1}", []string{"⍵≤1:1", "⍵×∇ ⍵-1"}}, {"{A←'é∆' ⋄ ⍺}⍝", []string{"A←'é∆'", "⍺"}},
	}
	for _, c := range cases {
		f, e := define.Dfn(c.text)
		if got, x := define.Parts(f); e != api.OK || x != api.OK || !slices.Equal(got, c.want) {
			t.Errorf("%q %q %v %v", c.text, got, e, x)
		}
		f.Name, f.Result, f.Labels = "F", "R", []string{"L"} // what else it has plays no part
		if got, x := define.Parts(f); x != api.OK || !slices.Equal(got, c.want) {
			t.Errorf("%q %q %v", c.text, got, x)
		}
	}
	for _, f := range []api.Fn{{}, {Braces: true}, {Braces: true, Lines: []string{}}, {Lines: []string{"{⍵}"}}, {Braces: true, Lines: []string{"{⍵}", "{⍵}"}}, {Braces: true, Lines: []string{"F"}}, made("F", "1"), made("F")} {
		if got, e := define.Parts(f); e != api.ErrForm || len(got) != 0 {
			t.Errorf("%+v %q %v", f, got, e)
		}
	}
}

// braced is what stands between the braces of a dfn, character by character; false: the text is none.
func braced(s string) (string, bool) {
	depth, quoted, behind := 0, false, -1
	trimmed := strings.TrimLeft(s, " \t")
	if !strings.HasPrefix(trimmed, "{") {
		return "", false
	}
	for i, c := range trimmed {
		switch {
		case c == '\'':
			quoted = !quoted
		case quoted:
			continue
		case c == '⍝':
			return trimmed[1:max(behind, 1)], behind > 0
		case c == '{':
			depth++
		case c == '}':
			depth--
		}
		if behind > 0 && c != ' ' && c != '\t' {
			return "", false
		}
		if depth == 0 && behind < 0 {
			behind = i
		}
	}
	return trimmed[1:max(behind, 1)], behind > 0
}

func TestDfnsAsTheWordsHaveThem(t *testing.T) { // P12.1, P12.2
	d := dice(2463534242)
	taken := 0
	for range 60000 {
		s := d.choice("{", "{", "{", " {", "")
		for range d.next(9) {
			s += d.choice("{", "}", "{", "}", "'", "'a'", "'}'", "⋄", " ", "\t", "⍵", "1", "+", "⍝", "A", "∆", "$")
		}
		s += d.choice("}", "}", "", "} ", "} ⍝ a")
		inside, want := braced(s)
		_, x, _ := lex.All(s)
		want = want && x == api.OK
		f, e := define.Dfn(s)
		if (e == api.OK) != want {
			t.Fatalf("%q %+v %v", s, f, e)
		}
		parts, x := define.Parts(api.Fn{Lines: []string{s}, Braces: true})
		if !want {
			if x != api.ErrForm {
				t.Fatalf("%q %q %v", s, parts, x)
			}
			continue
		}
		taken++
		if split, _, _ := lex.Split(inside); x != api.OK || !slices.Equal(parts, split) {
			t.Fatalf("%q %q %v", s, parts, x)
		}
	}
	if taken < 5000 {
		t.Error("too few are taken", taken)
	}
}

func TestNiladic(t *testing.T) { // P12.2
	d, _ := define.Dfn("{⍵}")
	cases := []struct {
		f    api.Fn
		want bool
	}{
		{api.Fn{}, true}, {made("F"), true}, {made("R←F;X"), true}, {made("F B"), false}, {made("R←A F B"), false}, {d, false}, {api.Fn{Braces: true, Right: "B"}, false}, {api.Fn{Left: "A"}, true},
	}
	for _, c := range cases {
		if define.Niladic(c.f) != c.want {
			t.Error(c)
		}
	}
}

func TestLocals(t *testing.T) { // P12.2
	d, _ := define.Dfn("{A←⍵}")
	rich := made("R←A F B;X;Y", "L:1", "M:2")
	braced := rich
	braced.Braces = true
	cases := []struct {
		f    api.Fn
		want []string
	}{
		{api.Fn{}, nil}, {made("F"), nil}, {made("F B"), []string{"B"}}, {made("R←F"), []string{"R"}}, {rich, []string{"R", "A", "B", "X", "Y", "L", "M"}}, {made("F;Z;C", "B:1", "A:1"), []string{"Z", "C", "B", "A"}},
		{d, []string{"⍺", "⍵"}}, {braced, []string{"⍺", "⍵"}}, {api.Fn{Locals: []string{"", "X", ""}, Labels: []string{"", "L"}, Left: "A"}, []string{"A", "X", "L"}}, {api.Fn{Right: "B", Locals: []string{"B", "B"}}, []string{"B", "B", "B"}},
	}
	for _, c := range cases {
		if got := define.Locals(c.f); !slices.Equal(got, c.want) {
			t.Error(c, got)
		}
	}
}

func TestSame(t *testing.T) { // P12.2
	f := func() api.Fn { return made("R←A F B;X;Y", "L:1", "M:2") }
	if !define.Same(f(), f()) || !define.Same(api.Fn{}, api.Fn{Locals: []string{}, Labels: []string{}, At: []int{}, Lines: []string{}}) || define.Same(f(), api.Fn{}) || define.Same(api.Fn{}, f()) {
		t.Error("the same")
	}
	for i, change := range []func(f *api.Fn){
		func(f *api.Fn) { f.Name = "G" },
		func(f *api.Fn) { f.Result = "" },
		func(f *api.Fn) { f.Left = "a" },
		func(f *api.Fn) { f.Right = "A" },
		func(f *api.Fn) { f.Braces = true },
		func(f *api.Fn) { f.Locals[1] = "Z" },
		func(f *api.Fn) { f.Locals = f.Locals[:1] },
		func(f *api.Fn) { f.Locals = nil },
		func(f *api.Fn) { f.Locals = []string{"Y", "X"} },
		func(f *api.Fn) { f.Labels[0] = "Z" },
		func(f *api.Fn) { f.Labels = append(f.Labels, "") },
		func(f *api.Fn) { f.At[0] = 2 },
		func(f *api.Fn) { f.At = nil },
		func(f *api.Fn) { f.Lines[2] += " " },
		func(f *api.Fn) { f.Lines = append(f.Lines, "") },
		func(f *api.Fn) { f.Lines = f.Lines[:0] },
	} {
		g := f()
		change(&g)
		if define.Same(f(), g) || define.Same(g, f()) || !define.Same(g, g) {
			t.Error(i, g)
		}
	}
	f1, g1 := api.Fn{Lines: []string{"\xff"}}, api.Fn{Lines: []string{"\uFFFD"}}
	if define.Same(f1, g1) || !define.Same(f1, f1) {
		t.Error("bytes that are no UTF-8")
	}
}

func TestWhatIsHandedInAndAnswered(t *testing.T) { // P3, P6
	all := []string{"R←A F B;X;Y", "L:1", "M:2", "room", "more"}
	lines := all[:3]
	f, _, _ := define.Make(lines...)
	g, _, _ := define.Make(lines...)
	h, _ := define.Header(lines[0])
	k, _ := define.Header(lines[0])
	d, _ := define.Dfn("{⍵}")
	apart(t, "a function", elements(lines), places(f), places(g), places(h), places(k), places(d), elements(define.Locals(f)), elements(define.Locals(f)), elements(define.Locals(d)), elements(define.Locals(d)))
	roomy := api.Fn{Result: "R", Locals: all[:1], Labels: all[1:2], At: []int{1, 2}[:1], Lines: all[:2]}
	define.Locals(roomy)
	define.Body(roomy, 1)
	define.Canon(roomy)
	define.Parts(roomy)
	if !slices.Equal(all, []string{"R←A F B;X;Y", "L:1", "M:2", "room", "more"}) || !slices.Equal(roomy.At[:2], []int{1, 2}) {
		t.Error("what was handed in is changed", all)
	}
	lines[1], f.Lines[2], f.Labels[0], define.Locals(d)[0] = "spoilt", "spoilt", "spoilt", "spoilt"
	if !alike(g, made("R←A F B;X;Y", "L:1", "M:2")) || !slices.Equal(define.Locals(d), []string{"⍺", "⍵"}) {
		t.Error(g)
	}
}
