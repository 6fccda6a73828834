package machine_test

import (
	"slices"
	"strings"
	"testing"

	"glyph/api"
	"glyph/machine"
)

func TestExecute(t *testing.T) { // P13.1, E6
	m := of(t, "A←5", "S X\n'shown'", "R←F X\nR←⍎X", "N\n7")
	for line, want := range map[string]string{
		"⍎'1+1'": "2", "1+⍎'A'": "6", "⍎'1 ⋄ 2 ⋄ 3'": "3", "⍎'B←4' ⋄ B": "4|4", "B←⍎'C←4' ⋄ B C": "4 4", "⍎'⍎''1+2'''": "3", "⍎'S 1 ⋄ 4'": "shown|4", "⍎¨'1' '2+3'": "1 5", "⍎'5'": "5", "⍎' 6 ⍝ remark'": "6", "⍎'⎕←1 ⋄ ⎕←2'": "1|2|2", "F 'X'": "X", "F '⍴X'": "2", "{⍎'⍵'}3": "3", "⍎⍕1 2 ¯3 1r4": "1 2 ¯3 1r4", "⍎'''a'''": "a", "⍴⍎''''''": "0", "⍎'G←{⍵+1} ⋄ G 1'": "2", "⍎'⋄⋄3'": "3", "⍎⍕A": "5", "⍎'A←6' ⋄ A": "6|6",
	} {
		shows(t, m.Fork(), line, want)
	}
	for marked, e := range map[string]api.Errno{
		"1‸⍎'1'": api.Syntax, "1 2‸⍎5": api.Syntax, "‸⍎2 2⍴'1'": api.Rank, "‸⍎1 1⍴5": api.Rank, "‸⍎5": api.Domain, "‸⍎1 2": api.Domain, "‸⍎'a' 1": api.Domain, "‸⍎'ab' 'c'": api.Domain, "‸⍎''": api.Value, "‸⍎⍳0": api.Value, "‸⍎'⍝'": api.Value, "‸⍎' '": api.Value, "‸⍎'1 ⋄'": api.Value, "‸⍎'H←{⍵}'": api.Value, "‸⍎'{}1'": api.Value,
		"1+‸⍎'→'": api.Syntax, "‸⍎'→⎕←5'": api.Syntax, "‸⍎'1:2'": api.Syntax, "‸⍎'Z:2'": api.Syntax, "‸⍎'1+'": api.Syntax, "‸⍎'''a'": api.Syntax, "2+‸⍎'1÷0'": api.Domain, "2+‸⍎'3 ⋄ Z'": api.Value, "‸⍎'1+⍎''Z'''": api.Value, "‸⍎'$'": api.Syntax, "‸⍎1030⍴'1'": api.Syntax, "‸⍎400⍴'9'": api.Limit, "(⍳3)+‸⍎'1 2+1 2 3'": api.Length, "‸⍎¨'1' '2÷0'": api.Domain, "⍎1‸÷0": api.Domain, "‸⍎'A←7 ⋄ A[8]'": api.Rank,
	} {
		errs(t, m.Fork(), marked, e)
	}
	silent(t, m, "H←{⍵}")
	fails(t, m, "⍎'⎕←1 ⋄ 2 ⋄ S 1 ⋄ Z ⋄ 3'", api.Value, at("‸⍎'⎕←1 ⋄ 2 ⋄ S 1 ⋄ Z ⋄ 3'"), "1", "shown")
	fails(t, m, "⍎'S 1'", api.Value, at("‸⍎'S 1'"), "shown")
	if o := m.Do("⍎'1÷0'", 3); o.Errno != api.Interrupt || o.Where != at("‸⍎'1÷0'") {
		t.Error(o)
	}
}

// TestExecutePlaces: errors in a text have the place of what executes it, in the same call; those of calls in it their own.
func TestExecutePlaces(t *testing.T) { // P13.1
	m := of(t, "R←F X\nR←1+⍎X ⋄ R", "G X\nX\n2+F X", "R←K X\nR←X", "V←0")
	fails(t, m, "F '2÷0'", api.Domain, in("F", 1, "R←1+‸⍎X"))
	suspended(t, m, []machine.Where{in("F", 1, "R←1+‸⍎X")})
	m.Reset(true)
	fails(t, m, "G 'K 1÷V'", api.Domain, in("F", 1, "R←1+‸⍎X"), "K 1÷V")
	suspended(t, m, []machine.Where{in("F", 1, "R←1+‸⍎X"), in("G", 2, "2+‸F X")})
	m.Reset(true)
	fails(t, m, "⍎'1 ⋄ {⍵÷V}5'", api.Domain, in("{}", 1, "⍵‸÷V"))
	suspended(t, m, []machine.Where{in("{}", 1, "⍵‸÷V")})
	m.Reset(true)
	fails(t, m, "{3+⍎⍵}'{1+⍵÷V}5'", api.Domain, in("{}", 1, "1+⍵‸÷V"))
	suspended(t, m, []machine.Where{in("{}", 1, "1+⍵‸÷V"), in("{}", 1, "3+‸⍎⍵")})
	m.Reset(true)
	// Behind a text the places are those of the statement again.
	errs(t, m, "(1‸÷V)+⍎'2'", api.Domain)
	errs(t, m, "1 2‸+(⍎'V')1 2÷1", api.Length)
	errs(t, m, "(‸Z÷V)+'0' ⎕EA '1÷0'", api.Value)
}

func TestTrap(t *testing.T) { // P13.1
	m := of(t, "R←F X;L\nL←X\nR←G X", "R←G X;M\nM←X\nR←1÷X", "L←'l'", "M←'m'", "X←7", "S X\n", "W\nL:→L")
	for line, want := range map[string]string{
		"'5' ⎕EA '1÷0'": "5", "'5' ⎕EA '6'": "6", "'X' ⎕EA '1÷0'": "7", "1+'X' ⎕EA '1÷0'": "8", "'L M' ⎕EA 'F 0'": "lm", "'0' ⎕EA 'F 4'": "1r4", "'A' ⎕EA '1÷A←0' ⋄ A": "0|0", "'''v''' ⎕EA 'Z'": "v", "'''s''' ⎕EA '1+'": "s", "'''l''' ⎕EA '1 2+1 2 3'": "l", "'''n''' ⎕EA 'S 1'": "n", "'''n''' ⎕EA ''": "n", "'''e''' ⎕EA '⎕ES 8'": "e", "'''b''' ⎕EA '→'": "b", "'''g''' ⎕EA '1:2'": "g", "'''t''' ⎕EA '''a'": "t",
		"'1' ⎕EA '''2'' ⎕EA ''Z'''": "2", "'''3'' ⎕EA ''Z''' ⎕EA 'Z'": "3", "'5' '6' ⎕EA¨'Z' '1'": "5 1", "'9' ⎕EA 'F¨1 0'": "9", "'⎕←2 ⋄ 3' ⎕EA '⎕←1 ⋄ Z'": "1|2|3", "{'⍵' ⎕EA '1÷⍵-⍵'}4": "4", "'5' ⎕EA '{⍵÷0}1'": "5", "'⎕NC ''M''' ⎕EA 'F 0'": "2", "'⎕NC ''Q''' ⎕EA '{Q←⍵ ⋄ 1÷⍵}0'": "0",
	} {
		f := m.Fork()
		shows(t, f, line, want)
		suspended(t, f)
	}
	for marked, e := range map[string]api.Errno{
		"‸⎕EA '1'": api.Syntax, "1+'Z' ‸⎕EA '1÷0'": api.Value, "'1÷0' ‸⎕EA 'Z'": api.Domain, "'' ‸⎕EA 'Z'": api.Value, "'S 1' ‸⎕EA 'Z'": api.Value, "'(' ‸⎕EA 'Z'": api.Syntax, "5 ‸⎕EA '1'": api.Domain, "'1' ‸⎕EA 5": api.Domain, "(2 2⍴'1') ‸⎕EA '1'": api.Rank, "'1' ‸⎕EA 2 2⍴'1'": api.Rank, "5 ‸⎕EA 2 2⍴'1'": api.Rank, "(2 2⍴5) ‸⎕EA 5": api.Rank, "'5' ‸⎕EA[1]'1'": api.Syntax, "‸⎕EA¨'1'": api.Syntax, "'Z'‸⎕EA'⎕ES 1'": api.Value, "'5'⎕EA 1‸÷0": api.Domain,
	} {
		errs(t, m.Fork(), marked, e)
	}
	// The calls that came by the right text are over; those of the left one are not.
	fails(t, m, "'G 0' ⎕EA 'F 0'", api.Domain, in("G", 2, "R←1‸÷X"))
	suspended(t, m, []machine.Where{in("G", 2, "R←1‸÷X")})
}

// TestTrapInCalls: just the calls that came by the text are over.
func TestTrapInCalls(t *testing.T) { // P13.1, E5
	m := of(t, "R←F X;L\nL←X\nR←'L' ⎕EA 'G X'\nR←R L", "R←G X;L\nL←5\nR←1÷X", "R←K X\nR←'1÷X' ⎕EA 'G X'")
	shows(t, m, "F 0", "0 0")
	shows(t, m, "F 2", "1r2 2")
	fails(t, m, "K 0", api.Domain, in("K", 1, "R←'1÷X' ‸⎕EA 'G X'"))
	suspended(t, m, []machine.Where{in("K", 1, "R←'1÷X' ‸⎕EA 'G X'")})
	// Those that were suspended before stay.
	shows(t, m, "'X' ⎕EA 'G 0'", "0")
	suspended(t, m, []machine.Where{in("K", 1, "R←'1÷X' ‸⎕EA 'G X'")})
}

// TestTrapInterrupt: that the steps are used up is not trapped.
func TestTrapInterrupt(t *testing.T) { // P13.1, P13.3
	m := of(t, "W\nL:→L")
	o := m.Do("1 ⋄ '5' ⎕EA 'W' ⋄ 2", 100)
	if o.Errno != api.Interrupt || o.Used != 100 || o.Where != in("W", 1, "‸→L") || !slices.Equal(o.Shown, []string{"1"}) {
		t.Error(o)
	}
	suspended(t, m, []machine.Where{in("W", 1, "‸→L")})
	if o := m.Do("1+'5' ⎕EA '1+1'", 3); o.Errno != api.Interrupt || o.Where != at("1+'5' ‸⎕EA '1+1'") {
		t.Error(o)
	}
	if o := m.Do("1+'5' ⎕EA '1÷0'", 4); o.Errno != api.Interrupt || o.Used != 4 || o.Where != at("1+'5' ‸⎕EA '1÷0'") {
		t.Error(o)
	}
}

// TestDeep: texts that execute themselves end, whatever they have around it.
func TestDeep(t *testing.T) { // P13.3, E1, P1
	for text, most := range map[string]int{
		"⍎A": api.MaxSteps, "'1' ⎕EA A": api.MaxSteps, strings.Repeat("-", 900) + "⍎A": api.MaxSteps, "⍎" + strings.Repeat("¨", 10) + strings.Repeat("⊂", 10) + "A": api.MaxSteps, "1+⍎A": plenty, "⍎¨⊂A": plenty, "A[⍎A]": plenty, "(⍎A)(⍎A)": plenty, "+/[⍎A]1 2": plenty, "'⍎A' ⎕EA '⍎A'": plenty, "B←⍎A": plenty, "A[1]←⍎A": plenty,
	} {
		m := of(t, "A←'"+strings.ReplaceAll(text, "'", "''")+"'")
		for _, steps := range []int{10, 1000, most} {
			if o := m.Fork().Do("⍎A", steps); o.Errno != api.Interrupt || o.Used != steps || o.Where != at("‸⍎A") {
				t.Error(text, steps, o.Errno, o.Used, o.Where)
			}
		}
	}
	// Calls come to their limit first.
	m := of(t, "A←'{⍎⍵}A'")
	if o := m.Do("⍎A", api.MaxSteps); o.Errno != api.Limit || o.Where != in("{}", 1, "‸⍎⍵") {
		t.Error(o)
	}
}

// TestLong: what is long, but not deep, is no matter.
func TestLong(t *testing.T) { // P13.3
	m := of(t, "R←C N\nR←0\nL:R←R+1\n→(R<N)/L", "R←T N\nL:R←'7' ⎕EA '"+strings.Repeat("-", 400)+"1÷0'\n→(0<N←N-1)/L")
	if o := m.Do("C 70000", api.MaxSteps); o.Errno != api.OK || !slices.Equal(o.Shown, []string{"70000"}) {
		t.Error(o)
	}
	if o := m.Do("T 400", api.MaxSteps); o.Errno != api.OK || !slices.Equal(o.Shown, []string{"7"}) {
		t.Error(o)
	}
	shows(t, m, "+/⍎¨⍕¨⍳2000", "2001000")
}

// TestReadAgain: the same text is another statement, when its names are something else.
func TestReadAgain(t *testing.T) { // P13.1
	m := of(t, "F←{⍵+1}")
	shows(t, m, "⍎'F 1' ⋄ E←⎕EX 'F' ⋄ F←5 ⋄ ⍎'F 1' ⋄ E←⎕EX 'F' ⋄ F←{⍵-1} ⋄ ⍎'F 1'", "2|5 1|0")
	shows(t, m, "E←⎕EX 'F' ⋄ F←5 ⋄ ⍎'F 1' ⋄ E←⎕EX 'F' ⋄ F←{⍵-1} ⋄ ⍎'F 1' ⋄ E←⎕EX 'F' ⋄ F←6 ⋄ ⍎'F 1'", "5 1|0|6 1")
	shows(t, m, "E←⎕EX 'F' ⋄ E←⎕FX 'R←F' 'R←3' ⋄ ⍎'F-1' ⋄ E←⎕FX 'R←F X' 'R←10×X' ⋄ ⍎'F-1'", "2|¯10")
	done(t, m, "P F\n⍎'F 2'", "E←⎕EX 'F'", "F←{⍵×10}")
	shows(t, m, "⍎'F 2' ⋄ P 7 ⋄ ⍎'F 2'", "20|7 2|20") // it is a local there
}
