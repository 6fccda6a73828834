package define_test

import (
	"slices"
	"strings"
	"testing"

	"glyph/api"
	"glyph/array"
	"glyph/define"
)

func TestCanon(t *testing.T) { // P12.3
	canon(t, made("F"), "F")
	canon(t, made("R←A F B;X", "L:→(B=0)/L2", "", "R←'é∆⍵'"), "R←A F B;X  ", "L:→(B=0)/L2", "           ", "R←'é∆⍵'    ")
	canon(t, made("F", "A ", "\t"), "F ", "A ", "\t ")
	d, _ := define.Dfn(" {⍵} ")
	canon(t, d, " {⍵} ")
	canon(t, api.Fn{Lines: []string{"no header", "\x00\n\uFFFD\U0010FFFF"}}, "no header", "\x00\n\uFFFD\U0010FFFF     ")
	canon(t, api.Fn{Lines: []string{""}}, "") // of no characters: an empty matrix, its prototype a blank
	canon(t, api.Fn{Lines: []string{"", "", ""}}, "", "", "")
	if a, e := define.Canon(api.Fn{Lines: []string{"", "", ""}}); e != api.OK || !slices.Equal(a.Shape, []int{3, 0}) {
		t.Error(a, e)
	}
}

func TestCanonErrors(t *testing.T) { // P12.3, P2, P5
	canonNot(t, api.Fn{}, api.ErrForm)
	canonNot(t, api.Fn{Name: "F", Lines: []string{}}, api.ErrForm)
	for _, s := range []string{"\xff", "A\xff", "\xe2\x8d", "\xed\xa0\x80", "\xc0\x80"} {
		canonNot(t, api.Fn{Lines: []string{s}}, api.ErrForm)
		canonNot(t, api.Fn{Lines: []string{"F", s, ""}}, api.ErrForm)
		canonNot(t, api.Fn{Lines: []string{strings.Repeat("A", 5000), s}}, api.ErrForm) // ahead of Limit
		canonNot(t, api.Fn{Braces: true, Lines: []string{s}}, api.ErrForm)
	}
	wide := strings.Repeat("⍵", api.MaxItems/2)
	canon(t, api.Fn{Lines: []string{wide, wide}}, wide, wide)
	canonNot(t, api.Fn{Lines: []string{wide, wide, ""}}, api.Limit)
	canonNot(t, api.Fn{Lines: []string{"", wide + "A"}}, api.Limit)
	canonNot(t, api.Fn{Lines: []string{wide + wide + "A"}}, api.Limit)
	canon(t, api.Fn{Lines: make([]string, api.MaxItems)}, make([]string, api.MaxItems)...)
	canonNot(t, api.Fn{Lines: make([]string, api.MaxItems+1)}, api.Limit)
	canonNot(t, api.Fn{Lines: append(make([]string, api.MaxItems), "A")}, api.Limit)
	many := slices.Repeat([]string{"⍝345678901234567"}, api.MaxLines)
	many[0] = "F"
	if a, e := define.Canon(made(many[:255]...)); e != api.OK || !slices.Equal(a.Shape, []int{255, 16}) {
		t.Error(e)
	}
	if a, e := define.Canon(made(many...)); e != api.OK || !slices.Equal(a.Shape, []int{256, 16}) {
		t.Error(e)
	}
	many[9] += "8"
	canonNot(t, made(many...), api.Limit)
}

func TestFromMatrix(t *testing.T) { // P12.3
	from(t, matrix("R←A F B;X  ", "L:→(B=0)/L2", "           ", "R←'é∆⍵'    "), made("R←A F B;X", "L:→(B=0)/L2", "", "R←'é∆⍵'"))
	from(t, matrix("F"), made("F"))
	from(t, matrix("  F  ", "\tA\t  "), made("  F", "\tA\t"))
	from(t, matrix("F    ", "' ' ⍝", "⍝    "), made("F", "' ' ⍝", "⍝"))
	from(t, matrix("{⍵+1}"), api.Fn{Lines: []string{"{⍵+1}"}, Braces: true})
	from(t, matrix("{⍵+1}  "), api.Fn{Lines: []string{"{⍵+1}"}, Braces: true})
	from(t, matrix(" {⍵} ⍝ a "), api.Fn{Lines: []string{" {⍵} ⍝ a"}, Braces: true})
}

func TestFromTexts(t *testing.T) { // P12.3
	from(t, texts("R←A F B;X", "L:→(B=0)/L2 ", "", "   ", "R←A"), made("R←A F B;X", "L:→(B=0)/L2", "", "", "R←A"))
	from(t, texts("F B   "), made("F B"))
	from(t, texts("{⍵+1}"), api.Fn{Lines: []string{"{⍵+1}"}, Braces: true})
	from(t, texts("{}  "), api.Fn{Lines: []string{"{}"}, Braces: true})
	from(t, texts("F"), made("F"))
	from(t, api.Array{Items: []api.Item{boxed(text("F B"))}}, made("F B")) // a scalar
	from(t, api.Array{Items: []api.Item{boxed(text("{⍵}"))}}, api.Fn{Lines: []string{"{⍵}"}, Braces: true})
	from(t, api.Array{Items: chars("F")}, made("F"))
	from(t, text("F"), made("F"))
	from(t, text("FAB ⍝"), made("F", "A", "B", "", "⍝")) // each character is a line
	mixed := api.Array{Shape: []int{3}, Items: []api.Item{char('F'), boxed(text("L:1")), char('A')}}
	from(t, mixed, made("F", "L:1", "A"))
	none := texts("F", "", "A")
	none.Items[1] = boxed(array.Ints()) // an empty vector is a line without characters, whatever its prototype
	from(t, none, made("F", "", "A"))
	from(t, texts(append([]string{"F"}, make([]string, api.MaxLines-1)...)...), made(append([]string{"F"}, make([]string, api.MaxLines-1)...)...))
}

func TestFromArraysThatAreNotRight(t *testing.T) { // P12.3, P1, P2
	for _, a := range wrongArrays() {
		fromNot(t, a, api.ErrForm, 0)
	}
	looped := texts("F", "A")
	looped.Items[1].Box[0] = looped
	fromNot(t, looped, api.ErrForm, 0)
}

func TestFromOtherArrays(t *testing.T) { // P12.3, P2
	five := array.Int(5).Items[0]
	cube := matrix("FA")
	cube.Shape = []int{1, 1, 2}
	numbers := matrix("F ", "A ")
	numbers.Items[3] = five
	inner := matrix("F ", "A ")
	inner.Items[1] = boxed(text("A"))
	for _, a := range []api.Array{
		array.Int(5), array.Ints(1, 2), array.Ints(), array.Text(""), cube, numbers, inner,
		{Shape: []int{0, 0}, Items: chars(" ")}, {Shape: []int{0, 5}, Items: chars(" ")}, {Shape: []int{5, 0}, Items: chars(" ")}, {Shape: []int{1, 0}, Items: []api.Item{five}}, {Shape: []int{0, 1, 1}, Items: chars(" ")},
		{Shape: []int{2}, Items: []api.Item{char('F'), five}}, {Shape: []int{2}, Items: []api.Item{boxed(text("F")), boxed(array.Ints(1, 2))}}, {Shape: []int{2}, Items: []api.Item{boxed(text("F")), boxed(matrix("A"))}},
		{Shape: []int{1}, Items: []api.Item{boxed(texts("F"))}}, {Shape: []int{1}, Items: []api.Item{boxed(api.Array{Items: []api.Item{boxed(text("F"))}})}}, {Items: []api.Item{boxed(matrix("F"))}}, {Items: []api.Item{boxed(texts("F", "A"))}},
		{Shape: []int{2, 1}, Items: []api.Item{boxed(text("F")), boxed(text("A"))}},
		texts("'a", "{⍵}"), texts("{⍵"), texts("{⍵}}"), texts("{⍵}", "1"), matrix("{⍵}", "   "), matrix("1F"), texts("", "F"), matrix("  ", "F "),
		texts(append([]string{"F"}, make([]string, api.MaxLines)...)...),
	} {
		fromNot(t, a, api.ErrDefn, 0)
	}
	fromNot(t, matrix("F X", "   ", "X:1"), api.ErrDefn, 2)
	fromNot(t, texts("F X", "L:1", "", "L: "), api.ErrDefn, 3)
	fromNot(t, texts("F", "'a", "$"), api.ErrDefn, 1)
	fromNot(t, texts("F", strings.Repeat("+", api.MaxLine+1)), api.ErrDefn, 1)
	from(t, texts("F", strings.Repeat("+", api.MaxLine)+"  "), made("F", strings.Repeat("+", api.MaxLine))) // the blanks are left out first
}

func TestThereAndBack(t *testing.T) { // P12.4, E6
	d := dice(88172645463325252)
	for range 3000 {
		lines := []string{d.choice("F", "R←F B", "R←A F B;X;Y", " F ⍝ a ")}
		labels := numbered("L", 9)
		for i := range d.next(9) {
			line := d.choice("", " ", labels[i]+":", labels[i]+" : ", "\t")
			for range d.next(5) {
				line += d.choice("A", "'é '", "⍵", "1", " ", "\t", "+", "⍝ ", "{", "⋄")
			}
			lines = append(lines, line)
		}
		f, e, _ := define.Make(lines...)
		if e != api.OK {
			t.Fatalf("%q %v", lines, e)
		}
		a, e := define.Canon(f)
		if e != api.OK || !array.Right(a) {
			t.Fatalf("%q %v", lines, e)
		}
		back, e, at := define.FromArray(a)
		want := f
		want.Lines = nil
		for _, line := range f.Lines {
			want.Lines = append(want.Lines, strings.TrimRight(line, " "))
		}
		if e != api.OK || at != 0 || !define.Same(back, want) {
			t.Fatalf("%q %+v %v %v", lines, back, e, at)
		}
		again, e := define.Canon(back)
		if once, _, _ := define.FromArray(again); e != api.OK || !define.Same(once, back) {
			t.Fatalf("%q %+v", lines, once)
		}
		if nested, e, _ := define.FromArray(texts(f.Lines...)); e != api.OK || !define.Same(nested, want) {
			t.Fatalf("%q %+v", lines, nested)
		}
	}
}

func TestDfnsThereAndBack(t *testing.T) { // P12.3, E6
	for _, s := range []string{"{}", "{⍵+1 ⋄ 2}", " {'é '}", "{⍵} ⍝ a"} {
		f, e := define.Dfn(s)
		a, x := define.Canon(f)
		if back, y, _ := define.FromArray(a); e != api.OK || x != api.OK || y != api.OK || !define.Same(back, f) {
			t.Error(s, back, e, x, y)
		}
	}
}

func TestArraysAreTheCallers(t *testing.T) { // P3
	f := made("F", "A")
	a, _ := define.Canon(f)
	b, _ := define.Canon(f)
	apart(t, "a matrix", elements(a.Shape), elements(a.Items), elements(b.Shape), elements(b.Items))
	a.Shape[0], a.Items[0] = 7, api.Item{}
	canon(t, f, "F", "A")
	roomy := matrix("F ", "A ")
	shape, items := []int{2, 2, 9}, append(slices.Clone(roomy.Items), char('x'), char('y'))
	g, e, _ := define.FromArray(api.Array{Shape: shape[:2], Items: items[:4]})
	if e != api.OK || !define.Same(g, f) || !slices.Equal(shape, []int{2, 2, 9}) || items[4].Char != 'x' || items[5].Char != 'y' {
		t.Error(g, e, shape, items)
	}
}
