package lex_test

import (
	"slices"
	"strings"
	"testing"

	"glyph/api"
	"glyph/lex"
)

func TestSplit(t *testing.T) { // P4.4
	cases := []struct {
		line string
		want []string
	}{
		{"", []string{""}}, {" \t", []string{""}}, {"⍝ A ⋄ B", []string{""}}, {"A", []string{"A"}}, {" \tA  +\tB \t", []string{"A  +\tB"}},
		{"A⋄B", []string{"A", "B"}}, {"A ⋄\tB ⋄ C", []string{"A", "B", "C"}}, {"⋄", []string{"", ""}}, {" ⋄ ⋄ ", []string{"", "", ""}}, {"A ⋄", []string{"A", ""}}, {"⋄A", []string{"", "A"}},
		{"A ⋄ ⍝ B", []string{"A", ""}}, {"A⍝ ⋄ B", []string{"A"}}, {"A ⋄ B ⍝ ⋄ C", []string{"A", "B"}}, {"'⋄'⋄'a ⋄ b' ", []string{"'⋄'", "'a ⋄ b'"}}, {"' a ' ⋄ '⍝'⍝", []string{"' a '", "'⍝'"}},
		{"{⍵ ⋄ 1}2 ⋄ 3", []string{"{⍵ ⋄ 1}2", "3"}}, {"{{⋄}⋄}⋄{⋄}", []string{"{{⋄}⋄}", "{⋄}"}}, {"{⋄", []string{"{⋄"}}, {"{{⋄}⋄", []string{"{{⋄}⋄"}},
		{"}⋄A", []string{"}", "A"}}, {"}}{⋄}⋄A", []string{"}}{⋄}", "A"}}, {"}{⋄A", []string{"}{⋄A"}}, {"'{'⋄A", []string{"'{'", "A"}}, {"{'}'⋄A}⋄B", []string{"{'}'⋄A}", "B"}},
		{"(A⋄B)⋄[C⋄D]", []string{"(A", "B)", "[C", "D]"}}, {"{A ⍝ }⋄B", []string{"{A"}},
	}
	for _, c := range cases {
		if got, e, at := lex.Split(c.line); !slices.Equal(got, c.want) || e != api.OK || at != 0 {
			t.Errorf("%q %q %v %v", c.line, got, e, at)
		}
	}
	if got, e, _ := lex.Split(strings.Repeat("⋄", 341)); e != api.OK || len(got) != 342 {
		t.Error("many", len(got), e)
	}
}

// dice is a row of numbers that is the same at every run.
type dice uint64

func (d *dice) next(n int) int {
	*d ^= *d << 13
	*d ^= *d >> 7
	*d ^= *d << 17
	return int(uint64(*d) >> 1 % uint64(n))
}

// randomLines are lines of pieces that begin, go on and end tokens, right and wrong ones.
func randomLines(n int) []string {
	pieces := []string{"A", "b9", "_", "∆", "1", "23", "¯", ".", "r", "'", "''", "'x'", "⎕", "IO", "+", "×", "⍳", "(", "]", "{", "}", "{", "}", "←", "⋄", "⋄", "⍵", " ", "  ", "\t", " ⍝", "$", "\uFFFD"}
	d := dice(2463534242)
	var out []string
	for range n {
		line := ""
		for range d.next(14) {
			line += pieces[d.next(len(pieces))]
		}
		out = append(out, line)
	}
	return out
}

func TestTokensStandInTheLine(t *testing.T) { // P4.2
	taken := 0
	for _, line := range randomLines(20000) {
		got, e, place := lex.All(line)
		runes, _, _ := lex.Runes(line)
		if e != api.OK {
			if len(got) != 0 || place < 0 || place >= len(runes) {
				t.Errorf("%q %v %v", line, e, place)
			}
			continue
		}
		taken++
		at := 0
		for _, one := range got {
			text, _, _ := lex.Runes(one.Text)
			between := string(runes[at:one.At])
			if one.Kind == lex.End {
				between, _, _ = strings.Cut(between, "⍝")
			}
			if strings.Trim(between, " \t") != "" || string(runes[one.At:one.At+len(text)]) != one.Text {
				t.Errorf("%q %v", line, one)
			}
			at = one.At + len(text)
		}
		if last := got[len(got)-1]; last.Kind != lex.End || last.At != len(runes) {
			t.Errorf("%q %v", line, last)
		}
	}
	if taken < 2000 {
		t.Error("too few lines are taken", taken)
	}
}

func TestBlanksBetweenTokens(t *testing.T) { // P4.5
	blanks := []string{" ", "\t", "  ", " \t "}
	d := dice(88172645463325252)
	for _, line := range randomLines(20000) {
		got, e, _ := lex.All(line)
		if e != api.OK {
			continue
		}
		wide := ""
		for _, one := range got {
			wide += blanks[d.next(len(blanks))] + one.Text
		}
		again, e, _ := lex.All(wide)
		if e != api.OK || !slices.EqualFunc(got, again, same) {
			t.Errorf("%q %q %v", line, wide, e)
		}
	}
}

func TestSplitOfParts(t *testing.T) { // P4.4, P4.7
	for _, line := range randomLines(20000) {
		parts, e, place := lex.Split(line)
		_, wantE, wantPlace := lex.All(line)
		if e != wantE || place != wantPlace || e == api.OK && len(parts) == 0 {
			t.Errorf("%q %v %v %v", line, parts, e, place)
		}
		for _, part := range parts {
			if again, e, _ := lex.Split(part); e != api.OK || !slices.Equal(again, []string{part}) {
				t.Errorf("%q %q %q %v", line, part, again, e)
			}
			if !strings.Contains(line, part) || strings.Trim(part, " \t") != part {
				t.Errorf("%q %q", line, part)
			}
		}
	}
}
