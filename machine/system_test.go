package machine_test

import (
	"strconv"
	"strings"
	"testing"

	"glyph/api"
	"glyph/define"
	"glyph/machine"
)

func TestFix(t *testing.T) { // P13.1
	m := machine.New()
	for line, want := range map[string]string{
		"⎕FX 'R←F X' 'R←X+1' ⋄ F 1": "F|2", "⎕FX ⊂'LONG' ⋄ ⎕NC 'LONG'": "LONG|3", "⎕FX 'F' ⋄ ⎕NC 'F'": "F|3", "⍴⎕FX 'F'": "1", "⍴⎕FX 'R←LONG X' 'R'": "4", "⎕FX 2 5⍴'R←F XR←X+1' ⋄ F 1": "F|2", "⎕FX 'F X' ('''x''') ⋄ F 1": "F|x", "⎕FX 'F' 'L:5' 'M:6' ⋄ F": "F|5|6",
		// Of a wrong one the number of its line is told.
		"⎕FX 5": "0", "⎕FX ''": "0", "⎕FX 0 0⍴''": "0", "⎕FX '1F'": "0", "⎕FX 'F' '''a'": "1", "⎕FX 'F' '1' '$'": "2", "⎕FX 'F X' 'X:1'": "1", "⎕FX 'F' 'L:1' 'L:2'": "2", "⎕FX 1 2 3": "0", "⎕FX 2 2 2⍴'F'": "0", "⎕FX 'F' 5": "0", "⍴⍴⎕FX 5": "0", "⎕FX 'R←F X' ⋄ ⎕CR 'R'": "R|R|←|F||X", "⎕IO←0 ⋄ ⎕FX 'F' '('')'": "1",
	} {
		shows(t, m.Fork(), line, want)
	}
	done(t, m, "V←5", "F←{⍵}", "R←G X\nR←⎕FX 'R←G X' 'R←5'\n", "L X\nE:⎕FX 'E' '5'", "K X;Z\nH", "H\n⎕FX 'K' '5'")
	for _, marked := range []string{"‸⎕FX 'V' '1'", "‸⎕FX ⊂'{⍵}'", "‸⎕FX 1 3⍴'{⍵}'", "‸⎕FX ⊂'{⍵} ⍝ '"} {
		errs(t, m, marked, api.Domain)
	}
	errs(t, m, "1‸⎕FX 'F' '1'", api.Syntax)
	shows(t, m, "V ⋄ F 7", "5|7")
	shows(t, m, "⎕FX 'R←F X' 'R←X+1' ⋄ F 7", "F|8") // a function may become another one
	// Not one that goes on, or is suspended, whoever asks for it.
	fails(t, m, "G 1", api.Domain, in("G", 1, "R←‸⎕FX 'R←G X' 'R←5'"))
	errs(t, m, "‸⎕FX 'G' '1'", api.Domain)
	fails(t, m, "K 1", api.Domain, in("H", 1, "‸⎕FX 'K' '5'"))
	fails(t, m, "L 1", api.Domain, in("L", 1, "‸⎕FX 'E' '5'")) // it is a label there
	m.Reset(true)
	shows(t, m, "⎕FX 'G' '1' ⋄ G", "G|1")
}

// TestFixLocal: a name that is localised becomes a function there.
func TestFixLocal(t *testing.T) { // P13.1, E5
	m := of(t, "R←F X;G\nR←⎕FX 'R←G X' 'R←X×10'\nR←G X", "G←5")
	shows(t, m, "F 3 ⋄ G", "30|5")
}

func TestCanon(t *testing.T) { // P13.1, E6
	m := of(t, "R←F X;Y\n→(X<5)/E ⍝ remark\n\nE:R←'it''s'", "D←{⍵>1:∇ ⍵-1 ⋄ ⍵}", "V←5", "NILADIC\n1")
	for line, want := range map[string]string{
		"⎕CR 'F'": "R←F X;Y|→(X<5)/E ⍝ remark||E:R←'it''s'", "⍴⎕CR 'F'": "4 17", "⎕CR 'D'": "{⍵>1:∇ ⍵-1 ⋄ ⍵}", "⎕CR 'NILADIC'": "NILADIC|1", "⍴⎕CR 'V'": "0 0", "⍴⎕CR 'Z'": "0 0", "⍴⎕CR ''": "0 0", "⍴⎕CR '+'": "0 0", "⍴⎕CR 'F '": "0 0", "⍴⎕CR ⍳0": "0 0", "' '≡↑⎕CR 'V'": "1", "⍴⎕CR '⎕FX'": "0 0", "⎕FX ⎕CR 'F'": "F", "⎕CR ,'F'": "R←F X;Y|→(X<5)/E ⍝ remark||E:R←'it''s'",
	} {
		shows(t, m, line, want)
	}
	for marked, e := range map[string]api.Errno{"‸⎕CR 1 1⍴'F'": api.Rank, "‸⎕CR 5": api.Domain, "‸⎕CR ⊂'FG'": api.Domain, "1‸⎕CR 'F'": api.Syntax, "‸⎕CR 2 2⍴5": api.Rank, "‸⎕CR 'F' 5": api.Domain} {
		errs(t, m, marked, e)
	}
	before, _ := m.Table().Get("F")
	done(t, m, "C←⎕CR 'F'", "E←⎕EX 'F'", "N←⎕FX C")
	if after, _ := m.Table().Get("F"); !define.Same(before.Fn, after.Fn) {
		t.Error(before.Fn, after.Fn)
	}
	// A function may be too great for a matrix.
	lines := []string{"BIG"}
	for range 40 {
		lines = append(lines, "'"+strings.Repeat("a", 100)+"'")
	}
	done(t, m, strings.Join(lines, "\n"))
	errs(t, m, "‸⎕CR 'BIG'", api.Limit)
}

func TestExpunge(t *testing.T) { // P13.1
	m := of(t, "A←1", "BC←2", "F←{⍵}", "R←G X;A\nA←5\nR←⎕EX X\nR←R,⎕NC 'A'", "N\n5", "⍵←1", "S X\n'A'\n1÷X", "L\nE:⎕EX 'E'\n⎕NC 'E'")
	for line, want := range map[string]string{
		"⎕EX 'A' ⋄ ⎕NC 'A'": "1|0", "⎕EX 'BC' ⋄ ⎕NC 'BC'": "1|0", "⎕EX 'F' ⋄ ⎕NC 'F'": "1|0", "⎕EX 'N'": "1", "⎕EX 'Z'": "1", "⎕EX ''": "0", "⎕EX '1'": "0", "⎕EX '⎕IO'": "0", "⎕EX '+'": "0", "⎕EX '⍵' ⋄ ⎕NC '⍵'": "1|0", "⎕EX 'A '": "0", "⎕EX ' A'": "0", "⎕EX 3 2⍴'A BCF ' ⋄ ⎕NC 3 2⍴'A BCF '": "1 1 1|0 0 0", "⎕EX 3 2⍴'A 1 A '": "1 0 1", "⍴⎕EX 'A'": "", "⍴⎕EX 1 1⍴'A'": "", "⍴⎕EX 2 1⍴'A'": "2", "⍴⎕EX 0 3⍴'A'": "0", "⎕EX 2 0⍴'A'": "0 0", "⍴⎕EX 0 0⍴5": "0", "⎕EX ⍳0": "0", "⎕EX 2 2⍴' A A'": "0 0",
		"G 'A' ⋄ A": "1 0|1", "L": "1|0", "⎕EX '" + strings.Repeat("a", api.MaxName) + "'": "1", "⎕EX '" + strings.Repeat("a", api.MaxName+1) + "'": "0",
	} {
		shows(t, m.Fork(), line, want)
	}
	for marked, e := range map[string]api.Errno{"‸⎕EX 1 1 1⍴'A'": api.Rank, "‸⎕EX 5": api.Domain, "‸⎕EX 2 2⍴5": api.Domain, "‸⎕EX 2 1⍴'A' 5": api.Domain, "‸⎕EX 'AB' 'C'": api.Domain, "‸⎕EX ⊂'AB'": api.Domain, "1‸⎕EX 'A'": api.Syntax, "‸⎕EX 1 2⍴'A' 'BC'": api.Domain, "‸⎕EX 1 1 1⍴5": api.Rank} {
		errs(t, m, marked, e)
	}
	// A function with a call that is not over stays.
	shows(t, m, "G 'G'", "0 2")
	shows(t, m, "G 2 1⍴'GF' ⋄ ⎕NC 'F'", "0 1 2|0")
	fails(t, m, "S 0", api.Domain, in("S", 2, "1‸÷X"), "A")
	shows(t, m, "⎕EX 'S' ⋄ ⎕EX 'X' ⋄ ⎕NC 2 1⍴'SX'", "0|1|3 0")
	done(t, m, "→")
	shows(t, m, "⎕EX 'S' ⋄ ⎕NC 'S'", "1|0")
}

func TestClasses(t *testing.T) { // P13.1
	m := of(t, "A←1", "F←{⍵}", "G X;Y\nE:⎕NC 5 1⍴'EXYAF'")
	for line, want := range map[string]string{
		"⎕NC 'A'": "2", "⎕NC 'F'": "3", "⎕NC 'G'": "3", "⎕NC 'Z'": "0", "⎕NC '1'": "4", "⎕NC ''": "4", "⎕NC '⎕IO'": "4", "⎕NC '⎕'": "4", "⎕NC '⍵'": "0", "⎕NC 'A '": "4", "⎕NC 4 2⍴'A F 1 Z '": "2 3 4 0", "G 1": "1 2 0 2 3", "⍴⎕NC 'A'": "", "⍴⎕NC 1 1⍴'A'": "", "⍴⎕NC 2 1⍴'A'": "2", "⍴⎕NC 0 1⍴'A'": "0", "{⎕NC '⍵'}1": "2", "{⎕NC '⍺'}1": "0",
	} {
		shows(t, m, line, want)
	}
	for marked, e := range map[string]api.Errno{"‸⎕NC 1 1 1⍴'A'": api.Rank, "‸⎕NC 5": api.Domain, "‸⎕NC 'AB' 'C'": api.Domain, "1‸⎕NC 'A'": api.Syntax} {
		errs(t, m, marked, e)
	}
}

func TestSignal(t *testing.T) { // P13.1
	m := of(t, "R←F X\nR←1+⎕ES X")
	for e := api.Syntax; e <= api.Limit; e++ {
		n := strconv.Itoa(int(e))
		errs(t, m, "1+‸⎕ES "+n, e)
		errs(t, m, "‸⎕ES,"+n, e)
		shows(t, m, "'''trapped''' ⎕EA '⎕ES "+n+"'", "trapped")
		fails(t, m, "F "+n, e, in("F", 1, "R←1+‸⎕ES X"))
	}
	for _, arg := range []string{"0", "9", "¯1", "20", "28", "1.5", "'a'", "⊂1 2", "10*300"} {
		errs(t, m, "‸⎕ES "+arg, api.Domain)
	}
	for _, arg := range []string{"⍳0", "''", "1 2", "'ab'", "2 2⍴1"} {
		errs(t, m, "‸⎕ES "+arg, api.Length)
	}
	errs(t, m, "1‸⎕ES 3", api.Syntax)
	errs(t, m, "‸⎕ES¨3 4", api.Domain)
}
