package machine_test

import (
	"strconv"
	"strings"
	"testing"

	"glyph/api"
	"glyph/machine"
)

func TestNames(t *testing.T) { // P13.1
	m := of(t, "A←1 2", "L X;Y\nE:E\nE+1\n5 E")
	shows(t, m, "A", "1 2")
	shows(t, m, "L 1", "1|2|5 1") // a label is its line
	shows(t, m, "⎕IO ⎕CT ⎕PP", "1 0 10")
	errs(t, m, "‸⎕", api.Domain)
	errs(t, m, "‸⎕[1]", api.Domain)
	for _, marked := range []string{"‸B", "‸⍺", "‸⍵", "1+‸B", "‸B[1]"} {
		errs(t, m, marked, api.Value)
	}
	// A name may become something else while its statement is done.
	errs(t, m, "‸B+⍎'B←{⍵} ⋄ 1'", api.Syntax)
	shows(t, m, "B 5", "5")
	done(t, m, "⍺←7", "⍵←8")
	shows(t, m, "⍺ ⍵", "7 8")
	done(t, m, "⎕EX '⍺' ⋄ ⍺←{⍵}")
	errs(t, m, "‸⍺", api.Syntax)
}

func TestStrands(t *testing.T) { // P13.1
	m := of(t, "A←1 2", "B←'x'")
	for line, want := range map[string]string{
		"A B": " 1 2  x", "1 'a' 'bc'": "1 a  bc ", "A A": " 1 2   1 2", "⍴A B A": "3", "≡A(A B)": "3", "(A←3)A": "3  1 2", "A(A←4)": "4 4", "(⎕←1)(⎕←2)": "2|1|1 2", "⍴1(0⍴5)": "2", "(1 2)[2]5": "2 5",
	} {
		shows(t, m.Fork(), line, strings.TrimRight(want, " "))
	}
	done(t, m, "D←"+strings.Repeat("⊂", api.MaxDepth-1)+"1 2")
	shows(t, m, "≡D", strconv.Itoa(api.MaxDepth))
	errs(t, m, "1+≡‸D 5", api.Limit)
	done(t, m, "C←100⍴⊂100⍴5")
	errs(t, m, "≡‸C C", api.Limit)
	errs(t, m, "⍴‸1 2 C C", api.Limit)
}

// TestOrder: the right part is done first, then the left one; places from the last one on, then what is indexed.
func TestOrder(t *testing.T) { // P13.1
	for line, want := range map[string]string{
		"(⎕←1)+⎕←2": "2|1|3", "(⎕←1)(⎕←2)+⎕←3": "3|2|1|4 5", "(⎕←5 6 7)[⎕←2]": "2|5 6 7|6", "(2 2⍴⎕←5 6 7 8)[⎕←1;⎕←2]": "2|1|5 6 7 8|6", "A←⎕←5 6 ⋄ A[⎕←1]←⎕←9 ⋄ A": "5 6|9|1|9 6", "A←2 2⍴0 ⋄ A[⎕←1;⎕←2]←⎕←9 ⋄ A": "9|2|1|0 9|0 0",
		"A+A←5": "10", "(A←1)+A←5 ⋄ A": "6|1", "+/[⎕←1]⎕←1 2": "1 2|1|3", "A←3 4 ⋄ A[A←1 2]←7 ⋄ A": "7 7", // the variable's value is asked at last
	} {
		shows(t, machine.New(), line, want)
	}
}

func TestIndexed(t *testing.T) { // P13.1
	m := of(t, "A←5 6 7", "B←2 3⍴⍳6", "⎕IO←1")
	for line, want := range map[string]string{
		"A[2]": "6", "A[]": "5 6 7", "A[3 1]": "7 5", "B[1;]": "1 2 3", "B[;2]": "2 5", "B[;]": "1 2 3|4 5 6", "B[2;3]": "6", "A[2 2⍴1]": "5 5|5 5", "(1 2)[2]": "2", "A[2 3][1]": "6", "'abc'[2]": "b", "(A B)[1]": " 5 6 7", "A[⍳0]": "", "⎕IO←0 ⋄ A[0]": "5",
	} {
		shows(t, m.Fork(), line, want)
	}
	errs(t, m, "A‸[0]", api.Index)
	errs(t, m, "B‸[1]", api.Rank)
	errs(t, m, "A‸[1.5]", api.Domain)
	errs(t, m, "A[‸{}1]", api.Value)
}

func TestAssign(t *testing.T) { // P13.1
	m := machine.New()
	for line, want := range map[string]string{
		"A←5 ⋄ A": "5", "A←B←5 ⋄ A B": "5 5", "A←1+B←5 ⋄ A B": "6 5", "1+A←5": "6", "A←5 ⋄ A←'x' ⋄ A": "x", "(A)←5 ⋄ A": "5", "_∆a9←5 ⋄ _∆a9": "5", "A←⍳3 ⋄ B←A ⋄ A[1]←9 ⋄ B": "1 2 3",
	} {
		shows(t, m.Fork(), line, want)
	}
	done(t, m, "F X\nL:L←5\nX", "A←1")
	fails(t, m, "F 1", api.Syntax, in("F", 1, "L‸←5"))
	m.Reset(true)
	errs(t, m, "F‸←5", api.Syntax)
	errs(t, m, "A←A+‸{}1", api.Value)
	// A name becomes a function while its statement is done.
	errs(t, m, "B‸←⍎'B←{⍵} ⋄ 1'", api.Syntax)
	shows(t, m, "A ⋄ ⎕NC 'B'", "1|3")
}

// TestSetting: what the system variables may be.
func TestSetting(t *testing.T) { // P13.1
	for name, values := range map[string][2][]string{
		"⎕IO": {{"0", "1", ",1", "1 1⍴0", "1=1", "2-1"}, {"2", "¯1", "0.5", "'a'", "0 1", "⍳0", "⊂0 1", "''", "(⊂1)2", "10*300"}},
		"⎕CT": {{"0", "1r3", "0.999", "÷10*200", ",0.5", "1 1⍴0"}, {"1", "1.5", "¯1r3", "'a'", "0 0", "⍳0", "⊂0 0", "10*300"}},
		"⎕PP": {{"1", "34", "10", ",5", "1 1⍴7"}, {"0", "35", "¯1", "1.5", "'a'", "1 2", "⍳0", "⊂1 2", "10*300"}},
	} {
		for _, value := range values[0] {
			m := machine.New()
			shows(t, m, name+"←"+value+" ⋄ "+name+"≡↑"+value, "1")
			shows(t, m, "("+name+"←"+value+")≡"+value, "1") // the value is what was assigned
		}
		for _, value := range values[1] {
			m := of(t, "⎕IO←0", "⎕CT←1r7", "⎕PP←3")
			before := picture(m)
			if o := m.Do(name+"←"+value, plenty); o.Errno != api.Domain || o.Where.At != 3 || strings.Join(before, "|") != strings.Join(picture(m), "|") {
				t.Error(name, value, o, picture(m))
			}
		}
	}
}

// TestSettingCounts: what is set is what functions go by.
func TestSettingCounts(t *testing.T) { // P13.1
	m := of(t, "⎕IO←0", "⎕CT←1r10")
	shows(t, m, "⍳3", "0 1 2")
	shows(t, m, "1=1.05 1.2", "1 0")
	shows(t, m, "(⍳3)[0]", "0")
	shows(t, m, "+/[0]2 2⍴1 2 3 4", "4 6")
	shows(t, m, "{⎕IO←1 ⋄ ⍳⍵}2", "1 2")
	shows(t, m, "⍳2", "1 2") // it is not localised
	// It counts as soon as it is set, within a statement, too.
	for line, want := range map[string]string{
		"(5 6 7,⎕IO←0)[1]": "6", "(5 6 7)[⎕IO←0]": "5", "A←5 6 ⋄ A[1]←⎕IO←0 ⋄ A": "5 0", "A←5 6 ⋄ A[⎕IO←0]←9 ⋄ A": "9 6", "(⍳2),⎕IO←0": "0 1 0", "(⎕IO←0),⍳2": "0 1 2", "+/[⎕IO←0]2 2⍴1 2 3 4": "4 6", "{⍵:⍳2}⎕IO←1": "1 2", "(⍎'⎕IO←0')⌷5 6": "5", "(2⊃5 6)+⎕IO←1": "7",
	} {
		shows(t, m.Fork(), line, want)
	}
	if e := m.Env(); e.IO != 1 || len(e.CT.Den) != 1 || e.CT.Den[0] != 10 || e.PP != 10 {
		t.Error(e)
	}
}

func TestAssignFunction(t *testing.T) { // P13.1
	m := of(t, "F←{⍵+1}", "G←{⍺+⍵ ⋄ 9}", "A←5")
	shows(t, m, "F 1 ⋄ 2 G 3 ⋄ ⎕NC 'F'", "2|5|3")
	for _, marked := range []string{"H‸←+", "H‸←+/", "H‸←F", "H‸←{⍵}¨", "H‸←∘.+", "⎕‸←{⍵}", "⎕IO‸←{⍵}", "H‸←⎕FX", "H‸←∇", "A‸←{⍵}", "F←‸{⍵}"} {
		errs(t, m, marked, api.Syntax)
	}
	shows(t, m, "A ⋄ ⎕NC 'H' ⋄ ⎕IO", "5|0|1")
	errs(t, m, "1+H←‸{⍵}", api.Syntax)
	errs(t, m, "1+(H‸←{⍵})", api.Value)
	shows(t, m, "H 6", "6") // it was assigned, but has no value
	shows(t, m, "⎕CR 'F'", "{⍵+1}")
	done(t, m, "K X\nL:L←{⍵}")
	fails(t, m, "K 1", api.Syntax, in("K", 1, "L‸←{⍵}"))
}

func TestAssignAt(t *testing.T) { // P13.1
	m := of(t, "A←5 6 7", "B←2 3⍴⍳6", "F←{⍵}", "S←3")
	for line, want := range map[string]string{
		"A[2]←9 ⋄ A": "5 9 7", "A[]←0 ⋄ A": "0 0 0", "A[3 1]←1 2 ⋄ A": "2 6 1", "B[1;]←9 ⋄ B": "9 9 9|4 5 6", "B[;2]←7 8 ⋄ B": "1 7 3|4 8 6", "A[1]←⊂1 2 ⋄ A": " 1 2  6 7", "A[1 1]←8 9 ⋄ A": "9 6 7", "C←A[1]←9 ⋄ C ⋄ A": "9|9 6 7", "1+A[1 2]←3": "4", "A[⍳0]←9 ⋄ A": "5 6 7", "A[A[1]-4]←0 ⋄ A": "0 6 7",
	} {
		shows(t, m.Fork(), line, want)
	}
	for marked, e := range map[string]api.Errno{
		"A[4]‸←1": api.Index, "A[1;1]‸←1": api.Rank, "A['a']‸←1": api.Domain, "A[1 2]‸←1 2 3": api.Length, "A[1 2]‸←2 2⍴1": api.Rank, "Z[1]‸←1": api.Value, "S[1]‸←1": api.Rank, "⎕[1]‸←1": api.Syntax, "⎕IO[1]‸←1": api.Syntax, "⎕CT[1]‸←0": api.Syntax, "⎕PP[‸Z]←1": api.Value, "⎕PP[1]←‸Z": api.Value, "F[1]‸←5": api.Syntax,
		"Z[1]‸←⍎'Z←{⍵} ⋄ 1'": api.Syntax, "A[1]←‸Z": api.Value, "A[‸Z]←1": api.Value, "A[1]←5+‸{}1": api.Value,
	} {
		errs(t, m.Fork(), marked, e)
	}
	shows(t, m, "A", "5 6 7")
	done(t, m, "K X\nL:L[1]←5\nM:L[]←M")
	fails(t, m, "K 1", api.Rank, in("K", 1, "L[1]‸←5"))
}

// TestNoValue: a part of a tree must have one.
func TestNoValue(t *testing.T) { // P13.1
	m := of(t, "S X\n", "N\n")
	for _, line := range []string{"S 1", "N", "{}1", "(S 1)", "(N)", "{S ⍵}1", "{N}1"} {
		silent(t, m, line)
	}
	for _, marked := range []string{"1+‸S 1", "‸N+1", "1 ‸N", "(‸N)1", "A←‸N", "‸N[1]", "A[‸N]", "(‸S 1)[1]", "→‸N", "-‸{}1", "+/[‸N]1 2", "1+‸S¨1 2", "‸S¨1 2", "1‸{}¨1 2", "‸{}/1 2", "⍎‸N", "‸⍎'N'", "‸⍎'S 1'", "⍎¨‸N"} {
		errs(t, m, marked, api.Value)
	}
	done(t, m, "A←5 6")
	errs(t, m, "A[1]←‸N", api.Value)
	errs(t, m, "A[‸N]←1", api.Value)
	// Of an operator the first one without a value ends it.
	done(t, m, "R←T X\n→(X=2)/0\n⎕←X\nR←X")
	fails(t, m, "T¨1 2 3", api.Value, at("‸T¨1 2 3"), "1")
	suspended(t, m)
}

// TestFunctionsTooDeep: functions with more levels than may be are none.
func TestFunctionsTooDeep(t *testing.T) { // P13.1
	m := machine.New()
	shows(t, m, "-"+strings.Repeat("¨", api.MaxNest-1)+"5", "¯5")
	fails(t, m, "(⎕←1)+"+strings.Repeat("¨", api.MaxNest)+"⎕←5", api.Syntax, at("(⎕←1)‸+"+strings.Repeat("¨", api.MaxNest)+"⎕←5"), "5", "1")
	takes(t, m, "+"+strings.Repeat("¨", api.MaxNest)+"5", 1)
}

// TestFull: there is no room for more names.
func TestFull(t *testing.T) { // P13.1, P13.2, P5
	m := machine.New()
	done(t, m, "R←F X;Y\nR←X", "G←{⍵}", "N\n5", "LB\n5\nE:6")
	for i := range api.MaxNames - 4 {
		done(t, m, "V"+strconv.Itoa(i)+"←1")
	}
	errs(t, m, "Z‸←1", api.Limit)
	errs(t, m, "Z‸←{⍵}", api.Limit)
	errs(t, m, "‸F 1", api.Limit)
	errs(t, m, "1+‸{⍵}1", api.Limit)
	errs(t, m, "‸LB", api.Limit)
	errs(t, m, "‸⎕FX 'Z' '1'", api.Limit)
	if name, e, line := m.Define("Z", "1"); name != "" || e != api.Limit || line != 0 {
		t.Error(name, e, line)
	}
	shows(t, m, "N ⋄ V1←2 ⋄ V1 ⋄ ⎕NC 'Z'", "5|2|0")
	suspended(t, m)
	shows(t, m, "⎕EX 'V1' ⋄ G 1", "1|1")
	fails(t, m, "{A←⍵}1", api.Limit, in("{}", 1, "A‸←⍵"))
	m.Reset(true)
	fails(t, m, "F 1", api.Limit, in("F", 1, "R‸←X"))
}
