package session_test

import (
	"slices"
	"strconv"
	"strings"
	"testing"

	"glyph/api"
	"glyph/machine"
	"glyph/report"
	"glyph/session"
	"glyph/show"
)

// dice is a row of numbers that is the same at every run.
type dice uint64

func (d *dice) next(n int) int {
	*d ^= *d << 13
	*d ^= *d >> 7
	*d ^= *d << 17
	return int(uint64(*d) >> 1 % uint64(n))
}

// plenty is more steps than most lines of the tests take.
const plenty = 10000

// of is a session that has done the lines of a text, none of which told anything.
func of(t *testing.T, text string) *session.Session {
	t.Helper()
	s := session.New(plenty)
	for _, line := range strings.Split(text, "\n") {
		tells(t, s, line, "")
	}
	return s
}

// tells asks for what a line tells, its lines with | between: of an empty text for nothing.
func tells(t *testing.T, s *session.Session, line, want string) {
	t.Helper()
	got := s.Line(line)
	if strings.Join(got, "|") != want || want == "" && len(got) > 0 {
		t.Errorf("%q tells %q, want %q", line, got, want)
	}
}

// runs asks for what a script tells, its lines with | between.
func runs(t *testing.T, script, want string) {
	t.Helper()
	told := ""
	if want != "" {
		told = strings.ReplaceAll(want, "|", "\n") + "\n"
	}
	if got := session.Run(script); got != told {
		t.Errorf("%q tells %q, want %q", script, got, told)
	}
}

// picture is all of a session that can be asked: lines that show it.
func picture(s *session.Session) []string {
	out := pictureOf(s.Machine())
	if s.Defining() {
		out = append(out, "defining")
	}
	if s.Off() {
		out = append(out, "off")
	}
	return out
}

// pictureOf is all of a machine that can be asked.
func pictureOf(m *machine.Machine) []string {
	var out []string
	table := m.Table()
	for _, class := range []api.Class{api.Label, api.Variable, api.Function} {
		for _, name := range table.List(class) {
			b, _ := table.Get(name)
			shown, _ := show.Literal(b.Array)
			out = append(out, name+" "+strings.Repeat("+", int(class))+" "+shown+" "+strings.Join(b.Fn.Lines, "|")+strings.Repeat(".", b.Line))
		}
	}
	for i := range table.Depth() {
		out = append(out, strings.Join(table.Locals(i), " "))
	}
	for _, group := range m.Suspended() {
		for _, w := range group {
			out = append(out, w.Name+"["+strings.Repeat("i", w.Line)+"] "+w.Text+strings.Repeat(".", w.At))
		}
		out = append(out, "*")
	}
	e := m.Env()
	tolerance, _ := show.Literal(api.Array{Items: []api.Item{{Kind: api.Number, Num: e.CT}}})
	return append(out, strings.Repeat("i", e.IO)+" "+tolerance+" "+strings.Repeat("i", e.PP))
}

// lasting are lines that define a function C, which takes many steps, and a line that takes just so many, and shows nothing.
func lasting(t *testing.T, steps int) ([]string, string) {
	t.Helper()
	lines := []string{"C N", "L:" + strings.Repeat("⋄", 300) + "→(0<N←N-1)/L"}
	m := machine.New()
	m.Define(lines...)
	least, twice := m.Do("C 1", plenty).Used, m.Do("C 2", plenty).Used
	rounds := (steps - least) / (twice - least)
	line := "C " + strconv.Itoa(1+rounds) + strings.Repeat("⋄", steps-least-rounds*(twice-least))
	if o := m.Do(line, steps); o.Used != steps || o.Errno != api.OK {
		t.Fatal(line, o)
	}
	return append([]string{"∇" + lines[0]}, append(lines[1:], "∇")...), line
}

// model is a session as its chapter's words say it, from line to line: what is being defined, and a machine.
type model struct {
	machine  *machine.Machine
	steps    int
	function []string
	off      bool
}

func (x *model) line(line string) []string {
	trimmed := strings.TrimLeft(strings.TrimRight(line, "\t "), "\t ")
	switch {
	case x.off:
		return nil
	case x.function != nil && trimmed == "∇":
		_, e, at := x.machine.Define(x.function...)
		x.function = nil
		switch e {
		case api.OK:
			return nil
		case api.ErrDefn:
			return []string{"DEFN ERROR [" + strconv.Itoa(at) + "]"}
		}
		return []string{"DEFN ERROR"}
	case x.function != nil:
		x.function = append(x.function, line)
		if len(x.function) > 256 {
			x.function = nil
			return []string{"DEFN ERROR"}
		}
		return nil
	case trimmed == "∇":
		return []string{"DEFN ERROR"}
	case strings.HasPrefix(trimmed, "∇"):
		x.function = []string{line[strings.Index(line, "∇")+3:]}
		return nil
	case strings.HasPrefix(trimmed, ")"):
		return x.command(slices.DeleteFunc(strings.Split(strings.ReplaceAll(trimmed, "\t", " "), " "), func(s string) bool { return s == "" }))
	}
	return report.Outcome(x.machine.Do(line, x.steps))
}

func (x *model) command(words []string) []string {
	if len(words) > 1 && words[0] != ")ERASE" {
		return []string{"INCORRECT COMMAND"}
	}
	var out []string
	switch words[0] {
	case ")VARS":
		out = x.machine.Table().List(api.Variable)
	case ")FNS":
		out = x.machine.Table().List(api.Function)
	case ")SI":
		return x.indicator()
	case ")RESET":
		for x.machine.Reset(false) > 0 {
		}
	case ")ERASE":
		for _, name := range words[1:] {
			had := x.machine.Table().Class(name) != api.Free
			x.machine.Erase(name)
			if !had || x.machine.Table().Class(name) != api.Free {
				out = append(out, name)
			}
		}
		if len(out) > 0 {
			out = append([]string{"NOT ERASED:"}, out...)
		}
	case ")CLEAR":
		x.machine = machine.New()
		out = []string{"CLEAR WS"}
	case ")OFF":
		x.off = true
	default:
		return []string{"INCORRECT COMMAND"}
	}
	if len(out) == 0 {
		return nil
	}
	return []string{strings.Join(out, " ")}
}

func (x *model) indicator() []string {
	var out []string
	for _, group := range x.machine.Suspended() {
		for _, w := range group {
			out = append(out, w.Name+"["+strconv.Itoa(w.Line)+"]")
		}
		out[len(out)-1] += "*"
	}
	return out
}
