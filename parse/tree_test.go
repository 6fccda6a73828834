package parse_test

import (
	"slices"
	"strings"
	"testing"

	"glyph/api"
	"glyph/array"
	"glyph/lex"
	"glyph/parse"
	"glyph/show"
)

func TestSystem(t *testing.T) { // P10.2
	functions, variables := []string{"⎕FX", "⎕CR", "⎕EX", "⎕NC", "⎕ES", "⎕EA"}, []string{"⎕IO", "⎕CT", "⎕PP", "⎕"}
	for _, s := range functions {
		if !parse.IsSystem(s) || parse.IsVariable(s) {
			t.Error(s)
		}
	}
	for _, s := range variables {
		if parse.IsSystem(s) || !parse.IsVariable(s) {
			t.Error(s)
		}
	}
	for _, s := range []string{"", "FX", "IO", "⎕fx", "⎕io", "⎕X", "⎕⎕", "⎕FX ", " ⎕IO", "⎕IOX", "⎕F", "⎕I", "A", "⍵", "∇", "⎕\xff", "\xe2\x8e"} {
		if parse.IsSystem(s) || parse.IsVariable(s) {
			t.Error(s)
		}
	}
}

func TestNamesAndSize(t *testing.T) { // P10.2
	for _, c := range []struct {
		line  string
		names string
		size  int
	}{
		{"", "", 1}, {"5", "", 1}, {"A", "A", 1}, {"A A B", "A A B", 4}, {"N+⍵", "N ⍵", 3}, {"A←B←5", "A B", 3}, {"A[B;]←C", "A C B", 4}, {"A[B;;C]", "A B C", 5}, {"A F B", "F A B", 3}, {"F G A", "F G A", 3},
		{"A←F", "A F", 1}, {"A←+", "A", 1}, {"∇A", "A", 2}, {"∇¨⎕FX A", "⎕FX A", 3}, {"⎕IO←⎕", "⎕IO ⎕", 2}, {"A F.G B", "F G A B", 3}, {"A∘.F B", "F A B", 3}, {"F/[A+B]C", "F A B C", 5}, {"C+[F A]D", "F A C D", 5},
		{"F[A]/[B]C", "F A B C", 4}, {"{A+B}C", "C", 2}, {"A←{F ⍵}", "A", 1}, {"→A", "A", 2}, {"→", "", 1}, {"A:B", "A B", 3}, {"(A B)[C←1]", "A B C", 6}, {"A[B[C]]", "A B C", 5}, {"+[-[A]B]C", "A B C", 5},
	} {
		tree, e, _ := parse.Statement(c.line, known()...)
		got := parse.Names(tree)
		if e != api.OK || strings.Join(got, " ") != c.names || parse.Size(tree) != c.size {
			t.Error(c.line, e, got, parse.Size(tree), "want", c.names, c.size)
		}
		if len(got) > 0 {
			got[0] = "changed"
			if strings.Join(parse.Names(tree), " ") != c.names {
				t.Error(c.line)
			}
		}
	}
}

// TestNamesOfAny: of trees as they are, right or not.
func TestNamesOfAny(t *testing.T) { // P10.2, P1
	tree := api.Tree{Kind: 99, Text: "no", Fn: []api.Func{
		{Kind: api.User, Text: "F", Parts: []api.Func{user(0, "∇"), user(0, "G")}, Where: []api.Tree{name(0, "A"), {Kind: api.Strand, Text: "no"}}},
		{Kind: 77, Text: "no", Parts: []api.Func{user(0, "H")}},
	}, Parts: []api.Tree{{}, {Kind: api.AssignAt, Text: ""}, {Kind: api.Const, Text: "no", Parts: []api.Tree{niladic(0, "Z")}}}}
	if got := parse.Names(tree); !slices.Equal(got, []string{"F", "G", "A", "H", "", "Z"}) {
		t.Errorf("%q", got)
	}
	if got := parse.Size(tree); got != 7 {
		t.Error(got)
	}
	if parse.Names(api.Tree{}) != nil || parse.Size(api.Tree{}) != 1 || parse.Print(api.Tree{}) != "" {
		t.Error("zero")
	}
}

func TestPrint(t *testing.T) { // P10.2
	for line, want := range map[string]string{
		"A+B×2": "(A + (B × (2)))", "+/1 2": "(+/ ((1) (2)))", "A[1;]←5": "(A[(1);]←(5))", "": "", "⍝": "", "¯1.5": "(¯3r2)", "'a'": "('a')", "''": "('')", "'it''s'": "('it''s')", "''''": "('''')",
		"A": "A", "N": "N", "⎕IO": "⎕IO", "A 'b' N": "(A ('b') N)", "-A": "(- A)", "A-B": "(A - B)", "F¨A": "(F¨ A)", "A[]": "A[]", "A[1;;B]": "A[(1);;B]", "A[1][2]": "A[(1)][(2)]", "(1 2)[1]": "((1) (2))[(1)]", "1[1]": "(1)[(1)]",
		"A←5": "(A←(5))", "A←+/": "(A←+/)", "A←{ ⍵ }": "(A←{ ⍵ })", "A←F": "(A←F)", "A[B]←C←1": "(A[B]←(C←(1)))", "→": "→", "→A+1": "→(A + (1))", "A:B C": "A:(B C)", "A+.×B": "(A +.× B)", "A∘.F/B": "(A ∘.F/ B)",
		"+/[1]A": "(+/[(1)] A)", "+[A←2]B": "(+[(A←(2))] B)", "+[1 2]/[A]B": "(+[((1) (2))]/[A] B)", "-+A": "(- (+ A))", "(A-B)-C": "((A - B) - C)", "A[+/B]": "A[(+/ B)]", "∇⎕CR'x'": "(∇ (⎕CR ('x')))", "1r3 007": "((1r3) (7))",
	} {
		tree, e, _ := parse.Statement(line, known()...)
		if got := parse.Print(tree); e != api.OK || got != want {
			t.Error(line, e, "prints", got, "want", want)
		}
	}
}

// TestPrintOfConstants: of arrays that no token is.
func TestPrintOfConstants(t *testing.T) { // P10.2, P1
	empty, _ := array.Make([]int{0}, array.Char(' ').Items...)
	one, _ := array.Make([]int{1}, array.Char('a').Items...)
	matrix, _ := array.Make([]int{2, 2}, array.Text("abcd").Items...)
	mixed, _ := array.Make([]int{2}, array.Char('a').Items[0], array.Int(1).Items[0])
	nested, _ := array.Make([]int{2}, array.Enclose(array.Text("ab")), array.Enclose(array.Ints(1, 2)))
	for _, c := range []struct {
		a    api.Array
		want string
	}{
		{array.Text("abc"), "('abc')"}, {empty, "('')"}, {array.Char('\''), "('''')"}, {array.Text("a'b"), "('a''b')"}, {one, "(,'a')"}, {matrix, "(2 2⍴'a' 'b' 'c' 'd')"}, {mixed, "('a' 1)"}, {nested, "(('a' 'b') (1 2))"},
		{array.Ints(), "(0⍴0)"}, {array.Ints(1), "(,1)"}, {array.Ints(1, -2), "(1 ¯2)"}, {array.Int(7), "(7)"}, {api.Array{}, "()"}, {api.Array{Shape: []int{-1}}, "()"}, {api.Array{Shape: []int{2}, Items: array.Char('a').Items}, "()"},
	} {
		if got := parse.Print(con(0, c.a)); got != c.want {
			t.Error(c.a, "prints", got, "want", c.want)
		}
	}
}

// TestPrintOfWrong: trees that lack parts, or have functions that may not be, print what they have.
func TestPrintOfWrong(t *testing.T) { // P10.2, P1
	bad := []api.Func{{}, {Kind: api.Prim, Text: "¨"}, {Kind: api.Op1, Text: "/"}, {Kind: api.Op2, Text: "."}, {Kind: api.Op2, Text: "∘."}, {Kind: api.AxisOf}, {Kind: 88}}
	for kind := range api.TreeKind(16) {
		for n := range 5 {
			for k := range len(bad) + 1 {
				tree := api.Tree{Kind: kind, Text: "A", Parts: slices.Repeat([]api.Tree{name(0, "B")}, n)}
				if k < len(bad) {
					tree.Fn = bad[k : k+1]
				}
				got := parse.Print(tree)
				if (kind == 0 || kind >= api.None) && got != "" {
					t.Error(kind, n, got)
				}
				parse.Names(tree)
				if parse.Size(tree) != 1+n {
					t.Error(kind, n)
				}
			}
		}
	}
	for _, f := range bad {
		if got := parse.Print(monadic(f, name(0, "A"))); got != "( A)" {
			t.Error(got)
		}
	}
	deep := prim(0, "+")
	for range api.MaxNest - 1 {
		deep = op(deep, "¨")
	}
	if got := parse.Print(monadic(deep, name(0, "A"))); got != "(+"+strings.Repeat("¨", api.MaxNest-1)+" A)" {
		t.Error(got)
	}
	if got := parse.Print(monadic(op(deep, "¨"), name(0, "A"))); got != "( A)" {
		t.Error(got)
	}
}

// TestDeepTrees: trees of very many levels, and those that lie in themselves, are gone through to an end.
func TestDeepTrees(t *testing.T) { // P10.2, P1
	const levels = 1<<16 - 1
	tree := name(0, "A")
	for range levels {
		tree = monadic(prim(0, "-"), tree)
	}
	if got := parse.Size(tree); got != levels+1 {
		t.Error(got)
	}
	if got := parse.Names(tree); !slices.Equal(got, []string{"A"}) {
		t.Error(len(got))
	}
	if got := parse.Print(tree); got != strings.Repeat("(- ", levels)+"A"+strings.Repeat(")", levels) {
		t.Error(len(got))
	}
	loop := dyadic(name(0, "A"), prim(0, "+"), name(0, "B"))
	loop.Parts[0], loop.Parts[1] = loop, loop
	axis := monadic(on(prim(0, "+"), name(0, "A")), name(0, "B"))
	axis.Fn[0].Where[0] = axis
	function := monadic(dot(prim(0, "+"), prim(0, "+")), name(0, "A"))
	function.Fn[0].Parts[0], function.Fn[0].Parts[1] = function.Fn[0], function.Fn[0]
	for _, tree := range []api.Tree{loop, axis, function} {
		parse.Size(tree)
		parse.Names(tree)
		if got := parse.Print(tree); got != "" {
			t.Error(len(got))
		}
	}
}

// TestStays: what is handed in stays as it is.
func TestStays(t *testing.T) { // P10.2, P3
	tree, _, _ := parse.Statement("A[1;B]←F/[C]'ab' 1r2", known()...)
	want, _, _ := parse.Statement("A[1;B]←F/[C]'ab' 1r2", known()...)
	parse.Names(tree)
	parse.Size(tree)
	parse.Print(tree)
	if !same(tree, want, true) {
		t.Error(tree)
	}
}

// TestQuotedBack: what Print quotes lex takes as that text.
func TestQuotedBack(t *testing.T) { // P10.3, E6
	for _, s := range []string{"", "ab", "it's", "''", "⍝ no remark", "a b", "{}", "⋄⋄", "\t ", "·\n"} {
		line := lex.Quote(s)
		tree, e, _ := parse.Statement(line)
		back, e2, _ := parse.Statement(parse.Print(tree))
		if e != api.OK || e2 != api.OK || !same(tree, back, false) || !array.Match(back.Array, array.Text(s)) {
			t.Error(s, e, e2)
		}
	}
}

// TestShownNumbers: what is shown of a vector of numbers is a strand of them.
func TestShownNumbers(t *testing.T) { // E6
	for _, l := range [][]int{{1, 2}, {-1, 0, 7}, {5, 5, 5, 1000000007}} {
		shown, e := show.Lines(array.Ints(l...))
		if e != api.OK || len(shown) != 1 {
			t.Fatal(shown, e)
		}
		tree, e, _ := parse.Statement(shown[0])
		if e != api.OK || tree.Kind != api.Strand || len(tree.Parts) != len(l) {
			t.Fatal(shown, e, tree)
		}
		for k, n := range l {
			if !same(tree.Parts[k], whole(0, n), false) {
				t.Error(shown, tree.Parts[k])
			}
		}
	}
}
