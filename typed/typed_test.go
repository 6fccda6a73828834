package typed_test

import (
	"slices"
	"testing"

	"glyph/typed"
)

func TestLines(t *testing.T) { // P15.2, P16.2: what a line of a text is
	for _, c := range []struct {
		text string
		want []string
	}{
		{"", nil}, {"\n", []string{""}}, {"a", []string{"a"}}, {"a\n", []string{"a"}}, {"a\n\n", []string{"a", ""}}, {"\na", []string{"", "a"}}, {"\n\n", []string{"", ""}}, {"a\nb", []string{"a", "b"}}, {" a\t\r\n\xff\n", []string{" a\t\r", "\xff"}}, {" ", []string{" "}}, {"\n ", []string{"", " "}}, {"a\u2028b\x0bc", []string{"a\u2028b\x0bc"}},
	} {
		walk := typed.Lines(c.text)
		for range 2 { // a walk can be gone once more
			if got := slices.Collect(walk); !slices.Equal(got, c.want) {
				t.Errorf("%q: %q", c.text, got)
			}
		}
		for line := range walk {
			if line != c.want[0] {
				t.Errorf("%q begins with %q", c.text, line)
			}
			break
		}
	}
}

func TestBlanks(t *testing.T) { // P15.1: blanks are 32 and 9 alone
	for _, c := range []struct {
		line, bare string
		words      []string
	}{
		{"", "", nil}, {" \t ", "", nil}, {"a", "a", []string{"a"}}, {"\t a  b\tc ", "a  b\tc", []string{"a", "b", "c"}}, {"\u00a0a\r", "\u00a0a\r", []string{"\u00a0a\r"}}, {" a\u2003b\n", "a\u2003b\n", []string{"a\u2003b\n"}}, {" \xff \xfe", "\xff \xfe", []string{"\xff", "\xfe"}},
	} {
		if got := typed.Bare(c.line); got != c.bare {
			t.Errorf("%q: %q", c.line, got)
		}
		if got := typed.Words(c.line); !slices.Equal(got, c.words) {
			t.Errorf("%q: %q", c.line, got)
		}
	}
}

func TestIsNabla(t *testing.T) { // P15.1, P16.1
	for _, line := range []string{"∇", " ∇", "∇ ", "\t ∇ \t"} {
		if !typed.IsNabla(line) {
			t.Errorf("%q", line)
		}
	}
	for _, line := range []string{"", " ", "∇∇", "∇ ∇", "∇F", "F∇", "∇⍝", "\u00a0∇", "∇\r", "∇\n", "\xe2\x88", "⍒"} {
		if typed.IsNabla(line) {
			t.Errorf("%q", line)
		}
	}
}
