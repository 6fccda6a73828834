package machine_test

import (
	"slices"
	"strings"
	"testing"

	"glyph/api"
	"glyph/lex"
	"glyph/machine"
	"glyph/show"
)

// author writes lines of many kinds, right and wrong ones.
type author struct {
	d dice
}

func (a *author) choice(l ...string) string {
	return l[a.d.next(len(l))]
}

func (a *author) line() string {
	var parts []string
	for range 1 + a.d.next(3) {
		parts = append(parts, a.part(3))
	}
	return strings.Join(parts, " ⋄ ")
}

func (a *author) part(depth int) string {
	switch a.d.next(12) {
	case 0:
		return a.choice("A", "B", "⎕IO", "⎕", "Z", "⍺", "L", "F", "N") + "←" + a.expression(depth)
	case 1:
		return a.choice("A", "B", "Z") + "[" + a.expression(depth-1) + "]←" + a.expression(depth)
	case 2:
		return "→" + a.choice("", a.expression(depth-1), "0", "2", "L", "⍳0")
	case 3:
		return a.choice("D", "E", "A") + "←" + a.dfn(depth-1)
	case 4:
		return a.expression(depth-1) + ":" + a.expression(depth-1)
	case 5:
		return a.choice("", "⍝ nothing", "1)", "N", "⎕ES 3", "⎕EX 'A'", "⎕EX 'D'", "⎕FX 'R←E X' 'R←X'")
	}
	return a.expression(depth)
}

func (a *author) expression(depth int) string {
	if depth <= 0 {
		return a.choice("0", "1", "2", "1 2 3", "A", "B", "⍵", "'a'", "'abc'", "N", "⍳0", "Z", "⍺", "(⎕IO←0)", "(⎕IO←1)")
	}
	switch a.d.next(10) {
	case 0:
		return "(" + a.expression(depth-1) + ")" + a.choice("+", "-", "÷", ",", "⍴", "F ", "D ", "+[1]", "=", "∘.F ", "+.D ", "F¨", "D/[A←1]") + a.expression(depth-1)
	case 1:
		return a.choice("-", "÷", "⍳", "⍴", "F ", "G ", "D ", "∇", "⎕←", "+/", "F¨", "D¨", "F⍨", "D/", "+/[D 1]", "⎕NC ", "⎕CR ", "S ") + a.expression(depth-1)
	case 2:
		return "⍎" + lex.Quote(a.part(depth-1))
	case 3:
		return lex.Quote(a.part(depth-1)) + " ⎕EA " + lex.Quote(a.part(depth-1))
	case 4:
		return a.dfn(depth-1) + a.expression(depth-1)
	case 5:
		return "(" + a.expression(depth-1) + ")[" + a.expression(depth-1) + "]"
	case 6:
		return "(" + a.expression(depth-1) + ")(" + a.expression(depth-1) + ")"
	}
	return a.expression(0)
}

func (a *author) dfn(depth int) string {
	var parts []string
	for range 1 + a.d.next(2) {
		parts = append(parts, a.part(depth))
	}
	return "{" + strings.Join(parts, "⋄") + "}"
}

// function is the lines of a tradfn.
func (a *author) function(header string) string {
	lines := []string{header}
	for i := range 1 + a.d.next(4) {
		label := ""
		if i == 1 {
			label = "L:"
		}
		lines = append(lines, label+a.line())
	}
	return strings.Join(lines, "\n")
}

// TestRandom: whatever is done, the promises that follow hold.
func TestRandom(t *testing.T) { // P13.1, P13.2, P13.3, P13.5, P13.6, E1, E4, E5, P1
	a := &author{d: 88172645463325252}
	seen := map[api.Errno]int{}
	for range 1500 {
		m := machine.New()
		for _, header := range []string{"R←X F Y;A;Q", "R←G X;B", "N;A", "S X;L2"} {
			m.Define(strings.Split(a.function(header), "\n")...)
		}
		m.Do("D←"+a.dfn(2), 10)
		m.Do(a.choice("A←1 2 3 ⋄ B←5", "A←⍵←1 2 3 ⋄ Z←2 ⋄ ⍺←B←1"), 10)
		for range 4 {
			line := a.line()
			seen[oneLine(t, m, line, 300)]++
		}
		calls := 0
		for _, group := range m.Suspended() {
			calls += len(group)
		}
		if n := m.Reset(true); n != calls || m.Table().Depth() != 0 || len(m.Suspended()) != 0 {
			t.Error(n, calls)
		}
	}
	for e := api.OK; e <= api.Interrupt; e++ {
		if seen[e] == 0 && e != api.Axis && e != api.Limit {
			t.Error("no line has the error", e)
		}
	}
}

// oneLine does a line, and asks for all that holds of any line.
func oneLine(t *testing.T, m *machine.Machine, line string, steps int) api.Errno {
	t.Helper()
	start, before := m.Fork(), m.Suspended()
	o := m.Do(line, steps)
	groups := m.Suspended()
	calls := 0
	for _, group := range groups {
		calls += len(group)
	}
	switch {
	case m.Table().Depth() != calls:
		t.Error(line, "frames", m.Table().Depth(), calls)
	case o.Errno == api.OK && o.Where != (machine.Where{}), o.Used > steps, o.Errno == api.Interrupt && o.Used != steps:
		t.Error(line, o)
	case o.Errno < api.OK || o.Errno > api.Interrupt:
		t.Error(line, o)
	case o.Where.At < 0 || o.Where.At > show.Width(o.Where.Text):
		t.Error(line, o)
	case o.Where.Name == "" && o.Where.Line != 0, o.Where.Name != "" && o.Where.Line == 0:
		t.Error(line, o)
	case o.Where.Name != "" && (len(groups) == 0 || groups[0][0] != o.Where):
		t.Error(line, o, groups)
	case o.Where.Name == "" && len(groups) > len(before):
		t.Error(line, o, groups)
	}
	again(t, start, m, line, o)
	return o.Errno
}

// again does a line that was done once more, with as many steps as it took, with more, and with fewer.
func again(t *testing.T, start, after *machine.Machine, line string, o machine.Outcome) {
	t.Helper()
	if o.Errno != api.Interrupt {
		for _, steps := range []int{o.Used, o.Used + 1, api.MaxSteps} {
			f := start.Fork()
			same := f.Do(line, steps)
			if same.Errno != o.Errno || same.Where != o.Where || same.Used != o.Used || !slices.Equal(same.Shown, o.Shown) || !slices.Equal(picture(f), picture(after)) {
				t.Error(line, steps, same, o)
			}
		}
	}
	for steps := range min(o.Used, 12) {
		if less := start.Fork().Do(line, steps); less.Errno != api.Interrupt || less.Used != steps || len(less.Shown) > len(o.Shown) || !slices.Equal(less.Shown, o.Shown[:len(less.Shown)]) {
			t.Error(line, steps, less, o)
		}
	}
}
