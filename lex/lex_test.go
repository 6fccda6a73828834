package lex_test

import (
	"math"
	"slices"
	"strings"
	"testing"

	"glyph/api"
	"glyph/array"
	"glyph/lex"
	"glyph/rat"
)

// glyphs and signs are written as numbers, so that one that merely looks like another is found out.
func glyphs() []rune {
	return []rune{
		0x002B, 0x002D, 0x00D7, 0x00F7, 0x2308, 0x230A, 0x007C, 0x002A, 0x0021, 0x007E, 0x003C, 0x2264, 0x003D, 0x2265, 0x003E, 0x2260, 0x2227,
		0x2228, 0x2372, 0x2371, 0x2374, 0x002C, 0x236A, 0x2191, 0x2193, 0x233D, 0x2296, 0x2349, 0x002F, 0x233F, 0x005C, 0x2340, 0x2373, 0x220A,
		0x234B, 0x2352, 0x222A, 0x2282, 0x2283, 0x2261, 0x2262, 0x22A4, 0x22A5, 0x2337, 0x234E, 0x2355, 0x00A8, 0x2218, 0x002E, 0x2368,
	}
}

func signs() []rune {
	return []rune{0x0028, 0x0029, 0x005B, 0x005D, 0x003B, 0x007B, 0x007D, 0x2190, 0x2192, 0x22C4, 0x003A, 0x2207, 0x237A, 0x2375}
}

// same holds tokens against each other, all but their places.
func same(a, b lex.Token) bool {
	if a.Kind != b.Kind || a.Text != b.Text {
		return false
	}
	if len(a.Array.Items) == 0 || len(b.Array.Items) == 0 {
		return len(a.Array.Items) == len(b.Array.Items) && len(a.Array.Shape) == len(b.Array.Shape)
	}
	return array.Match(a.Array, b.Array)
}

func number(text string, at int) lex.Token {
	r, e := rat.Parse(text)
	if e != api.OK {
		panic(text)
	}
	return lex.Token{Kind: lex.Number, Text: text, At: at, Array: array.Rat(r)}
}

func quoted(text, content string, at int) lex.Token {
	return lex.Token{Kind: lex.Text, Text: text, At: at, Array: array.Text(content)}
}

func one(text string, c rune, at int) lex.Token {
	return lex.Token{Kind: lex.Text, Text: text, At: at, Array: array.Char(c)}
}

func plain(kind lex.Kind, text string, at int) lex.Token {
	return lex.Token{Kind: kind, Text: text, At: at}
}

func takes(t *testing.T, line string, want ...lex.Token) {
	t.Helper()
	got, e, at := lex.All(line)
	if e != api.OK || at != 0 || len(got) != len(want) {
		t.Error(line, got, e, at)
		return
	}
	for i := range got {
		if !same(got[i], want[i]) || got[i].At != want[i].At {
			t.Error(line, i, got[i], "want", want[i])
		}
	}
}

// refuses asks all calls that have All's errors.
func refuses(t *testing.T, line string, want api.Errno, place int) {
	t.Helper()
	if got, e, at := lex.All(line); e != want || at != place || len(got) != 0 {
		t.Error("All", line, got, e, at, "want", want, place)
	}
	if got, e, at := lex.Split(line); e != want || at != place || len(got) != 0 {
		t.Error("Split", line, got, e, at, "want", want, place)
	}
	if n := lex.Count(line, lex.End, lex.Number, lex.Text, lex.Name, lex.Quad, lex.Glyph, lex.Sign); n != 0 {
		t.Error("Count", line, n)
	}
}

func TestRunes(t *testing.T) { // P4.1
	cases := []struct {
		s    string
		want []rune
	}{
		{"", nil}, {"a", []rune{'a'}}, {"aé⍵\U0010FFFF", []rune{'a', 233, 0x2375, 0x10FFFF}}, {"\x00\n'", []rune{0, 10, 39}}, {"\uFFFD\uFFFDa", []rune{65533, 65533, 'a'}},
		{"\uD7FF\uE000", []rune{0xD7FF, 0xE000}}, {"\x7f\u0080\u07FF\u0800\uFFFF\U00010000", []rune{0x7f, 0x80, 0x7FF, 0x800, 0xFFFF, 0x10000}},
	}
	for _, c := range cases {
		if got, e, at := lex.Runes(c.s); !slices.Equal(got, c.want) || e != api.OK || at != 0 {
			t.Error(c, got, e, at)
		}
	}
	long := strings.Repeat("⍵", 100000)
	if got, e, at := lex.Runes(long); string(got) != long || e != api.OK || at != 0 {
		t.Error("long", e, at)
	}
}

func TestRunesOfWrongBytes(t *testing.T) { // P4.1
	wrong := []string{
		"\xff", "\xfe", "\x80", "\xbf", "\xc0\x80", "\xc1\xbf", "\xe0\x80\x80", "\xe0\x9f\xbf", "\xf0\x80\x80\x80", "\xf0\x8f\xbf\xbf",
		"\xed\xa0\x80", "\xed\xbf\xbf", "\xf4\x90\x80\x80", "\xf5\x80\x80\x80", "\xf8\x88\x80\x80\x80",
		"\xc3", "\xe2\x8d", "\xe2", "\xf0\x9f\x98", "\xc3(", "\xe2\x8d(", "\xe2(\x80", "\xef\xbf", "\xef\xbf\xff",
	}
	ahead := []string{"", "a", "⍵⍵", "\uFFFD", "ab\uFFFD\U0010FFFF"}
	for _, w := range wrong {
		for _, s := range ahead {
			place := len([]rune(s))
			for _, behind := range []string{"", "z", "⍵", "\xff"} {
				if got, e, at := lex.Runes(s + w + behind); len(got) != 0 || e != api.ErrText || at != place {
					t.Errorf("%q %v %v %v", s+w+behind, got, e, at)
				}
			}
		}
		refuses(t, "'⍵"+w+"'", api.ErrText, 2)
		refuses(t, "A ⍝ ⍵"+w, api.ErrText, 5)
		refuses(t, "$$"+w, api.ErrText, 2) // bytes are told ahead of all tokens
	}
}

func TestNumbers(t *testing.T) { // P4.2, E6
	for _, s := range []string{"0", "7", "007", "¯7", "1.5", "¯0.25", "1r3", "¯4r6", "00.50", strings.Repeat("9", 300), "¯" + strings.Repeat("9", 300) + "r" + strings.Repeat("7", 300)} {
		takes(t, s, number(s, 0), plain(lex.End, "", len([]rune(s))))
	}
	takes(t, "1 2  ¯3", number("1", 0), number("2", 2), number("¯3", 5), plain(lex.End, "", 7))
	takes(t, "1¯2", number("1", 0), number("¯2", 1), plain(lex.End, "", 3))
	takes(t, ".5", plain(lex.Glyph, ".", 0), number("5", 1), plain(lex.End, "", 2))
	takes(t, "1A", number("1", 0), plain(lex.Name, "A", 1), plain(lex.End, "", 2))
	takes(t, "2 r3", number("2", 0), plain(lex.Name, "r3", 2), plain(lex.End, "", 4))
	takes(t, "1e5", number("1", 0), plain(lex.Name, "e5", 1), plain(lex.End, "", 3))
	takes(t, "1-2", number("1", 0), plain(lex.Glyph, "-", 1), number("2", 2), plain(lex.End, "", 3))
}

func TestNumbersThatAreNone(t *testing.T) { // P4.2
	for _, s := range []string{"1r", "1.", "1..2", "1r2r3", "1.2.3", "1r.5", "1.5r2", "1r0", "1r00", "¯", "¯.5", "¯r2", "1r2.5", "1rA", "1.+2", "¯¯1", "¯ 1", "1r¯2"} {
		refuses(t, s, api.ErrForm, 0)
		refuses(t, "⍵ '⍵' "+s, api.ErrForm, 6)
	}
	refuses(t, strings.Repeat("9", 400), api.Limit, 0)
	refuses(t, "A←"+strings.Repeat("0", api.MaxDigits+1), api.Limit, 2)
	refuses(t, "A←"+strings.Repeat(".", 3)+strings.Repeat("0", api.MaxDigits)+"r", api.Limit, 5)
	refuses(t, strings.Repeat("1.", api.MaxDigits/2), api.ErrForm, 0)
	takes(t, strings.Repeat("0", api.MaxDigits), number(strings.Repeat("0", api.MaxDigits), 0), plain(lex.End, "", api.MaxDigits))
	refuses(t, "1r"+strings.Repeat("9", 309), api.Limit, 0)
}

func TestTexts(t *testing.T) { // P4.2
	takes(t, "''", quoted("''", "", 0), plain(lex.End, "", 2))
	takes(t, "'a'", one("'a'", 'a', 0), plain(lex.End, "", 3))
	takes(t, "'⍵'", one("'⍵'", '⍵', 0), plain(lex.End, "", 3))
	takes(t, "' '", one("' '", ' ', 0), plain(lex.End, "", 3))
	takes(t, "''''", one("''''", '\'', 0), plain(lex.End, "", 4))
	takes(t, "''''''", quoted("''''''", "''", 0), plain(lex.End, "", 6))
	takes(t, "'ab'", quoted("'ab'", "ab", 0), plain(lex.End, "", 4))
	takes(t, "'it''s'", quoted("'it''s'", "it's", 0), plain(lex.End, "", 7))
	takes(t, "'a''b' 'c'", quoted("'a''b'", "a'b", 0), one("'c'", 'c', 7), plain(lex.End, "", 10))
	takes(t, "'a⍝$ \t{⋄'A", quoted("'a⍝$ \t{⋄'", "a⍝$ \t{⋄", 0), plain(lex.Name, "A", 9), plain(lex.End, "", 10))
	takes(t, "'\x00\n\uFFFD'", quoted("'\x00\n\uFFFD'", "\x00\n\uFFFD", 0), plain(lex.End, "", 5))
	for _, s := range []string{"'", "'a", "'a''", "'''", "'a''''", "'a ⍝ b", "'''''"} {
		refuses(t, s, api.ErrText, 0)
		refuses(t, "A←⍵ "+s, api.ErrText, 4)
	}
	refuses(t, "'a' 'b", api.ErrText, 4)
}

func TestNames(t *testing.T) { // P4.2
	most := strings.Repeat("A", api.MaxName)
	wide := strings.Repeat("∆", api.MaxName)
	for _, s := range []string{"A", "Z", "a", "z", "_", "∆", "a1", "r", "A_∆9z", "_1", "∆x0", most, wide, most[1:] + "9"} {
		takes(t, s, plain(lex.Name, s, 0), plain(lex.End, "", len([]rune(s))))
		takes(t, "⍵"+s+"+", plain(lex.Sign, "⍵", 0), plain(lex.Name, s, 1), plain(lex.Glyph, "+", 1+len([]rune(s))), plain(lex.End, "", 2+len([]rune(s))))
	}
	for _, s := range []string{most + "A", most + "1", wide + "_", strings.Repeat("z", 500)} {
		refuses(t, s, api.ErrName, 0)
		refuses(t, "A+⍵ "+s+" $", api.ErrName, 4)
	}
	takes(t, "AB C", plain(lex.Name, "AB", 0), plain(lex.Name, "C", 3), plain(lex.End, "", 4))
}

func TestQuads(t *testing.T) { // P4.2
	long := "⎕" + strings.Repeat("q", 100)
	for _, s := range []string{"⎕", "⎕IO", "⎕a", "⎕Zz", long} {
		takes(t, s, plain(lex.Quad, s, 0), plain(lex.End, "", len([]rune(s))))
	}
	takes(t, "⎕IO1", plain(lex.Quad, "⎕IO", 0), number("1", 3), plain(lex.End, "", 4))
	takes(t, "⎕_A", plain(lex.Quad, "⎕", 0), plain(lex.Name, "_A", 1), plain(lex.End, "", 3))
	takes(t, "⎕A∆", plain(lex.Quad, "⎕A", 0), plain(lex.Name, "∆", 2), plain(lex.End, "", 3))
	takes(t, "⎕⎕ IO", plain(lex.Quad, "⎕", 0), plain(lex.Quad, "⎕", 1), plain(lex.Name, "IO", 3), plain(lex.End, "", 5))
}

func TestGlyphsAndSigns(t *testing.T) { // P4.2
	for _, c := range glyphs() {
		takes(t, string(c), plain(lex.Glyph, string(c), 0), plain(lex.End, "", 1))
	}
	for _, c := range signs() {
		takes(t, string(c), plain(lex.Sign, string(c), 0), plain(lex.End, "", 1))
	}
	takes(t, "+/⍳3", plain(lex.Glyph, "+", 0), plain(lex.Glyph, "/", 1), plain(lex.Glyph, "⍳", 2), number("3", 3), plain(lex.End, "", 4))
	takes(t, "A[1;]←∘.×", plain(lex.Name, "A", 0), plain(lex.Sign, "[", 1), number("1", 2), plain(lex.Sign, ";", 3), plain(lex.Sign, "]", 4), plain(lex.Sign, "←", 5),
		plain(lex.Glyph, "∘", 6), plain(lex.Glyph, ".", 7), plain(lex.Glyph, "×", 8), plain(lex.End, "", 9))
}

func TestCharactersThatBeginNoToken(t *testing.T) { // P4.2
	for _, c := range []rune{0, '\n', '\r', '\v', 0xA0, '"', '#', '$', '%', '&', '?', '@', '^', '`', 127, 'é', 'Δ', '∈', '⍬', '○', '⌹', '⋆', '∣', '∼', 0x3000, 0xFEFF, 0xFFFD, 0x10FFFF, '٣', '𝟙'} {
		refuses(t, string(c), api.ErrText, 0)
		refuses(t, "'⍵' A"+string(c)+"$", api.ErrText, 5)
	}
	refuses(t, "$ 'a", api.ErrText, 0)
	refuses(t, "1r $", api.ErrForm, 0)
	refuses(t, "$ 1r", api.ErrText, 0)
}

func TestBlanksAndRemarks(t *testing.T) { // P4.2
	takes(t, "", plain(lex.End, "", 0))
	takes(t, " \t ", plain(lex.End, "", 3))
	takes(t, "\tA  \t", plain(lex.Name, "A", 1), plain(lex.End, "", 5))
	takes(t, "⍝", plain(lex.End, "", 1))
	takes(t, "  ⍝ 'a $ 1r ⍝", plain(lex.End, "", 13))
	takes(t, "A⍝B\n", plain(lex.Name, "A", 0), plain(lex.End, "", 4))
	takes(t, "'⍝'⍝'", one("'⍝'", '⍝', 0), plain(lex.End, "", 5))
	takes(t, "A←1.5 'it''s'", plain(lex.Name, "A", 0), plain(lex.Sign, "←", 1), number("1.5", 2), quoted("'it''s'", "it's", 6), plain(lex.End, "", 13))
}

func TestLongLines(t *testing.T) { // P4.2, P2
	for _, n := range []int{api.MaxLine - 1, api.MaxLine} {
		if got, e, at := lex.All(strings.Repeat("+", n)); e != api.OK || at != 0 || len(got) != n+1 {
			t.Error(n, len(got), e, at)
		}
	}
	wide := strings.Repeat("×", api.MaxLine/2)
	if got, e, _ := lex.All(wide); e != api.OK || len(got) != api.MaxLine/2+1 {
		t.Error("bytes are counted", e)
	}
	if got, e, _ := lex.All("'" + strings.Repeat("a", api.MaxLine-2) + "'"); e != api.OK || len(got[0].Array.Items) != api.MaxLine-2 {
		t.Error("a long text", e)
	}
	for _, s := range []string{strings.Repeat("+", api.MaxLine+1), wide + "+", strings.Repeat(" ", api.MaxLine+1), "⍝" + strings.Repeat("a", api.MaxLine), "\xff" + strings.Repeat("$", api.MaxLine), strings.Repeat("'", 1<<20)} {
		refuses(t, s, api.ErrLong, 0)
	}
	refuses(t, strings.Repeat("⍵", 300)+"$", api.ErrText, 300)
}

func TestArraysAreTheCallers(t *testing.T) { // P3
	first, _, _ := lex.All("1 'a' 'bc' ''")
	for i := range first {
		for j := range first[i].Array.Items {
			first[i].Array.Items[j] = api.Item{}
		}
	}
	takes(t, "1 'a' 'bc' ''", number("1", 0), one("'a'", 'a', 2), quoted("'bc'", "bc", 6), quoted("''", "", 11), plain(lex.End, "", 13))
}

func TestPrimitives(t *testing.T) { // P4.3
	if got := lex.Primitives(); got != string(glyphs()) {
		t.Error(got)
	}
	for c := rune(-1000); c <= 0x110100; c++ {
		if lex.IsPrimitive(c) != slices.Contains(glyphs(), c) {
			t.Error(c)
		}
	}
	for _, c := range []rune{math.MinInt32, math.MaxInt32} {
		if lex.IsPrimitive(c) {
			t.Error(c)
		}
	}
}

func TestQuote(t *testing.T) { // P4.3, P4.6
	for s, want := range map[string]string{"": "''", "a": "'a'", "it's": "'it''s'", "'": "''''", "''": "''''''", "⍵'": "'⍵'''", "\xff'\xc3": "'\xff''\xc3'", "a⍝b": "'a⍝b'"} {
		if got := lex.Quote(s); got != want {
			t.Errorf("%q %q", s, got)
		}
	}
	texts := []string{"", "a", "'", "''", "it's", "'a'", "⍝⋄{}$", " \t\n\x00", "\uFFFD", strings.Repeat("'", 511), strings.Repeat("⍵", 340)}
	for _, s := range texts {
		got, e, _ := lex.All(lex.Quote(s))
		if e != api.OK || len(got) != 2 || got[0].Kind != lex.Text || got[0].Text != lex.Quote(s) || got[0].At != 0 || got[1].Kind != lex.End {
			t.Error(s, got, e)
			continue
		}
		if back, ok := array.ToText(got[0].Array); back != s || !ok {
			t.Error(s, back, ok)
		}
		if scalar := len(got[0].Array.Shape) == 0; scalar != (len([]rune(s)) == 1) {
			t.Error(s, "a scalar or not")
		}
	}
	refuses(t, lex.Quote(strings.Repeat("'", 512)), api.ErrLong, 0)
	refuses(t, lex.Quote("a\xff"), api.ErrText, 2)
}

func TestNumbersThereAndBack(t *testing.T) { // E6
	parts := []string{"0", "1r3", "¯7", "5r2", "¯1r1000000", strings.Repeat("8", 250)}
	got, e, _ := lex.All(strings.Join(parts, " "))
	if e != api.OK || len(got) != len(parts)+1 {
		t.Fatal(got, e)
	}
	for i, s := range parts {
		if text := rat.Print(got[i].Array.Items[0].Num); text != s || len(got[i].Array.Shape) != 0 {
			t.Error(s, text)
		}
	}
}

func TestCount(t *testing.T) { // P4.3
	const line = "A←B+1 2 'x' 'yz'[⎕IO] ⍝ C"
	cases := []struct {
		kinds []lex.Kind
		want  int
	}{
		{nil, 0}, {[]lex.Kind{lex.Name}, 2}, {[]lex.Kind{lex.Number}, 2}, {[]lex.Kind{lex.Text}, 2}, {[]lex.Kind{lex.Quad}, 1}, {[]lex.Kind{lex.Glyph}, 1},
		{[]lex.Kind{lex.Sign}, 3}, {[]lex.Kind{lex.End}, 1}, {[]lex.Kind{lex.Name, lex.Number}, 4}, {[]lex.Kind{lex.Name, lex.Name, lex.Name}, 2}, {[]lex.Kind{7, 255}, 0}, {[]lex.Kind{99, lex.Quad}, 1},
		{[]lex.Kind{lex.End, lex.Number, lex.Text, lex.Name, lex.Quad, lex.Glyph, lex.Sign}, 12},
	}
	for _, c := range cases {
		if got := lex.Count(line, c.kinds...); got != c.want {
			t.Error(c, got)
		}
	}
	if lex.Count("") != 0 || lex.Count("", lex.End) != 1 || lex.Count("⍝ 1", lex.Number) != 0 || lex.Count("1 'a", lex.Number) != 0 {
		t.Error("edges")
	}
}
