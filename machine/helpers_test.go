package machine_test

import (
	"reflect"
	"slices"
	"strings"
	"testing"

	"glyph/api"
	"glyph/machine"
	"glyph/show"
)

// dice is a row of numbers that is the same at every run.
type dice uint64

func (d *dice) next(n int) int {
	*d ^= *d << 13
	*d ^= *d >> 7
	*d ^= *d << 17
	return int(uint64(*d) >> 1 % uint64(n))
}

// plenty is more steps than most lines of the tests take.
const plenty = 10000

// at is where a statement by itself stands: its text with ‸ ahead of the place.
func at(marked string) machine.Where {
	return in("", 0, marked)
}

// in is where a statement of a function's line, or part, stands.
func in(name string, line int, marked string) machine.Where {
	ahead, behind, ok := strings.Cut(marked, "‸")
	if !ok {
		panic("no place in " + marked)
	}
	return machine.Where{Name: name, Line: line, Text: ahead + behind, At: show.Width(ahead)}
}

// of is a machine that has done lines, and defined functions: a text with several lines is one.
func of(t *testing.T, lines ...string) *machine.Machine {
	t.Helper()
	m := machine.New()
	done(t, m, lines...)
	return m
}

// done does lines, and defines functions, none of which has an error.
func done(t *testing.T, m *machine.Machine, lines ...string) {
	t.Helper()
	for _, line := range lines {
		if strings.Contains(line, "\n") {
			if name, e, at := m.Define(strings.Split(line, "\n")...); e != api.OK {
				t.Fatal(line, name, e, at)
			}
			continue
		}
		if o := m.Do(line, plenty); o.Errno != api.OK {
			t.Fatal(line, o)
		}
	}
}

// shows asks for what a line without an error shows, its lines with | between.
func shows(t *testing.T, m *machine.Machine, line, want string) {
	t.Helper()
	o := m.Do(line, plenty)
	if o.Errno != api.OK || o.Where != (machine.Where{}) {
		t.Errorf("%s has the error %d at %+v", line, o.Errno, o.Where)
	}
	if got := strings.Join(o.Shown, "|"); got != want {
		t.Errorf("%s shows %q, want %q", line, got, want)
	}
}

// silent asks that a line has no error, and shows nothing, not even an empty line.
func silent(t *testing.T, m *machine.Machine, line string) {
	t.Helper()
	if o := m.Do(line, plenty); o.Errno != api.OK || len(o.Shown) > 0 || o.Where != (machine.Where{}) {
		t.Errorf("%s: %+v", line, o)
	}
}

// fails asks for the error of a line, and where it is, and for what was shown ahead of it.
func fails(t *testing.T, m *machine.Machine, line string, e api.Errno, w machine.Where, shown ...string) {
	t.Helper()
	o := m.Do(line, plenty)
	if o.Errno != e || o.Where != w {
		t.Errorf("%s has the error %d at %+v, want %d at %+v", line, o.Errno, o.Where, e, w)
	}
	if !slices.Equal(o.Shown, shown) {
		t.Errorf("%s shows %q, want %q", line, o.Shown, shown)
	}
}

// errs asks for the error of a line by itself that is marked with its place.
func errs(t *testing.T, m *machine.Machine, marked string, e api.Errno) {
	t.Helper()
	w := at(marked)
	fails(t, m, w.Text, e, w)
}

// takes asks how many steps a line takes: it must have just so many, and be interrupted by one less.
func takes(t *testing.T, m *machine.Machine, line string, steps int) {
	t.Helper()
	if o := m.Fork().Do(line, steps); o.Errno == api.Interrupt || o.Used != steps {
		t.Errorf("%s, with %d steps: %+v", line, steps, o)
	}
	if o := m.Fork().Do(line, plenty); o.Errno == api.Interrupt || o.Used != steps {
		t.Errorf("%s takes %d steps, want %d", line, o.Used, steps)
	}
	if steps == 0 {
		return
	}
	if o := m.Fork().Do(line, steps-1); o.Errno != api.Interrupt || o.Used != steps-1 {
		t.Errorf("%s, with %d steps: %+v", line, steps-1, o)
	}
}

// suspended asks for all groups, the last one first.
func suspended(t *testing.T, m *machine.Machine, want ...[]machine.Where) {
	t.Helper()
	if got := m.Suspended(); len(got) != len(want) || len(want) > 0 && !reflect.DeepEqual(got, want) {
		t.Errorf("suspended are %+v, want %+v", got, want)
	}
	count := 0
	for _, group := range want {
		count += len(group)
	}
	if got := m.Table().Depth(); got != count {
		t.Errorf("there are %d frames, want %d", got, count)
	}
}

// picture is all of a machine that can be asked: lines that show it.
func picture(m *machine.Machine) []string {
	var out []string
	table := m.Table()
	for _, class := range []api.Class{api.Label, api.Variable, api.Function} {
		for _, name := range table.List(class) {
			b, _ := table.Get(name)
			shown, _ := show.Literal(b.Array)
			out = append(out, name+" "+strings.Repeat("+", int(class))+" "+shown+" "+strings.Join(b.Fn.Lines, "|")+strings.Repeat(".", b.Line))
		}
	}
	for i := range table.Depth() {
		out = append(out, strings.Join(table.Locals(i), " "))
	}
	for _, group := range m.Suspended() {
		for _, w := range group {
			out = append(out, w.Name+"["+strings.Repeat("i", w.Line)+"] "+w.Text+strings.Repeat(".", w.At))
		}
		out = append(out, "*")
	}
	e := m.Env()
	tolerance, _ := show.Literal(api.Array{Items: []api.Item{{Kind: api.Number, Num: e.CT}}})
	return append(out, strings.Repeat("i", e.IO)+" "+tolerance+" "+strings.Repeat("i", e.PP))
}
