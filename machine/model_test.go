package machine_test

import (
	"slices"
	"strings"
	"testing"

	"glyph/api"
	"glyph/array"
	"glyph/define"
	"glyph/lex"
	"glyph/machine"
	"glyph/names"
	"glyph/parse"
	"glyph/pick"
	"glyph/rat"
	"glyph/show"
)

// model does lines as the chapter says it, plainly: what goes wrong is handed back from each thing to the one around it.
type model struct {
	table       *names.Table
	env         api.Env
	going       []api.Fn
	groups      [][]machine.Where
	shown       []string
	steps, used int
}

// fault is an error with its place in the call it comes to; or that the line is left. Each call that it comes out of is told in the group.
type fault struct {
	errno api.Errno
	leave bool
	at    int
	group []machine.Where
}

func newModel() *model {
	return &model{table: names.New(), env: api.Env{IO: 1, CT: rat.OfInt(0), PP: 10}}
}

func wrong(e api.Errno, at int) *fault {
	if e == api.OK {
		return nil
	}
	return &fault{errno: e, at: at}
}

func (m *model) do(line string, steps int) machine.Outcome {
	m.shown, m.used, m.steps = nil, 0, steps
	parts, e, at := lex.Split(line)
	if e != api.OK {
		return machine.Outcome{Errno: asSyntax(e), Where: machine.Where{Text: line, At: at}}
	}
	for _, part := range parts {
		f := m.partOfLine(part)
		switch {
		case f == nil:
			continue
		case f.leave:
			m.pop(len(f.group))
			return machine.Outcome{Shown: m.shown, Used: m.used}
		}
		m.going = nil
		if len(f.group) > 0 {
			m.groups = append([][]machine.Where{f.group}, m.groups...)
			return machine.Outcome{Shown: m.shown, Errno: f.errno, Where: f.group[0], Used: m.used}
		}
		return machine.Outcome{Shown: m.shown, Errno: f.errno, Where: machine.Where{Text: part, At: f.at}, Used: m.used}
	}
	return machine.Outcome{Shown: m.shown, Used: m.used}
}

func asSyntax(e api.Errno) api.Errno {
	if e == api.ErrLong || e == api.ErrText || e == api.ErrName || e == api.ErrForm {
		return api.Syntax
	}
	return e
}

// pop ends so many calls.
func (m *model) pop(n int) {
	for range n {
		m.table.Pop()
		if len(m.going) > 0 {
			m.going = m.going[:len(m.going)-1]
		}
	}
}

func (m *model) partOfLine(part string) *fault {
	t, f := m.statement(part)
	switch {
	case f != nil:
		return f
	case t.Kind == api.Branch && len(t.Parts) == 0:
		if len(m.groups) > 0 {
			m.pop(len(m.groups[0]))
			m.groups = m.groups[1:]
		}
		return nil
	case t.Kind == api.Branch:
		if _, f := m.must(t.Parts[0]); f != nil {
			return f
		}
	}
	return m.displayed(t)
}

func (m *model) statement(part string) (api.Tree, *fault) {
	if e := m.Step(); e != api.OK {
		return api.Tree{}, wrong(e, 0)
	}
	var known []parse.Known
	for _, name := range m.table.List(api.Function) {
		b, _ := m.table.Get(name)
		known = append(known, parse.Known{Name: name, Niladic: define.Niladic(b.Fn)})
	}
	t, e, at := parse.Statement(part, known...)
	return t, wrong(asSyntax(e), at)
}

func (m *model) displayed(t api.Tree) *fault {
	v, f := m.value(t)
	if f != nil || len(v) == 0 || t.Kind == api.Assign || t.Kind == api.AssignAt {
		return f
	}
	return m.display(v[0], t.At)
}

func (m *model) display(a api.Array, at int) *fault {
	lines, e := show.Lines(a)
	m.shown = append(m.shown, lines...)
	return wrong(e, at)
}

func (m *model) Step() api.Errno {
	if m.used == m.steps {
		return api.Interrupt
	}
	m.used++
	return api.OK
}

// must is the value of a part that must have one.
func (m *model) must(t api.Tree) (api.Array, *fault) {
	v, f := m.value(t)
	switch {
	case f != nil:
		return api.Array{}, f
	case len(v) == 0:
		return api.Array{}, wrong(api.Value, t.At)
	}
	return v[0], nil
}

// values are those of parts, the last one first; of None nothing.
func (m *model) values(l []api.Tree) ([][]api.Array, *fault) {
	out := make([][]api.Array, len(l))
	for i := len(l) - 1; i >= 0; i-- {
		if l[i].Kind == api.None {
			continue
		}
		a, f := m.must(l[i])
		if f != nil {
			return nil, f
		}
		out[i] = []api.Array{a}
	}
	return out, nil
}

func one(a api.Array, e api.Errno, at int) ([]api.Array, *fault) {
	if e != api.OK {
		return nil, wrong(e, at)
	}
	return []api.Array{a}, nil
}

func (m *model) value(t api.Tree) ([]api.Array, *fault) {
	switch t.Kind {
	case api.Const:
		return []api.Array{t.Array}, nil
	case api.None:
		return nil, nil
	case api.Branch, api.Guard:
		return nil, wrong(api.Syntax, t.At)
	case api.Name:
		a, e := m.named(t.Text)
		return one(a, e, t.At)
	case api.Niladic:
		v, f := m.user(t.Text, nil, nil)
		if f != nil {
			f.at = t.At
		}
		return v, f
	case api.Assign:
		return m.assign(t)
	case api.AssignAt:
		return m.assignAt(t)
	case api.Indexed:
		return m.indexed(t)
	}
	l, f := m.values(t.Parts)
	switch {
	case f != nil:
		return nil, f
	case t.Kind == api.Monadic:
		return m.apply(t.Fn[0], nil, l[0][0])
	case t.Kind == api.Dyadic:
		return m.apply(t.Fn[0], l[0], l[1][0])
	}
	var items []api.Item
	for _, v := range l {
		items = append(items, array.Enclose(v[0]))
	}
	a, e := array.Make([]int{len(items)}, items...)
	return one(a, e, t.At)
}

func (m *model) indexed(t api.Tree) ([]api.Array, *fault) {
	places, f := m.values(t.Parts[1:])
	if f != nil {
		return nil, f
	}
	of, f := m.must(t.Parts[0])
	if f != nil {
		return nil, f
	}
	a, e := pick.At(m.env, of, places...)
	return one(a, e, t.At)
}

func (m *model) named(name string) (api.Array, api.Errno) {
	b, _ := m.table.Get(name)
	switch {
	case name == "⎕":
		return api.Array{}, api.Domain
	case name == "⎕IO":
		return array.Int(m.env.IO), api.OK
	case name == "⎕CT":
		return array.Rat(m.env.CT), api.OK
	case name == "⎕PP":
		return array.Int(m.env.PP), api.OK
	case b.Class == api.Variable:
		return b.Array, api.OK
	case b.Class == api.Label:
		return array.Int(b.Line), api.OK
	case b.Class == api.Function:
		return api.Array{}, api.Syntax
	}
	return api.Array{}, api.Value
}

// TestModel: lines of many kinds do what the words say.
func TestModel(t *testing.T) { // P13.1, P13.2, P13.4, P13.5, E1, E4, E5
	a := &author{d: 2463534242}
	for range 3000 {
		m, n := machine.New(), newModel()
		define := func(lines string) {
			m.Define(strings.Split(lines, "\n")...)
			n.define(strings.Split(lines, "\n"))
		}
		define(a.function("R←X F Y;A;Q"))
		define(a.function("R←G X;B"))
		define(a.function("N;A"))
		define(a.function("S X;L2"))
		for i := range 8 {
			line := a.line()
			switch i {
			case 0:
				line = a.choice("A←1 2 3 ⋄ B←5", "A←⍵←1 2 3 ⋄ Z←2 ⋄ ⍺←B←1", "A←B←⍵←Z←0 ⋄ ⍺←2")
			case 1:
				line = "D←" + a.dfn(2)
			}
			steps := []int{300, 300, 300, 20, 5, 1, 0}[a.d.next(7)]
			got, want := m.Do(line, steps), n.do(line, steps)
			if got.Errno != want.Errno || got.Where != want.Where || got.Used != want.Used || !slices.Equal(got.Shown, want.Shown) {
				t.Fatalf("%s: %+v, want %+v\n%s", line, got, want, strings.Join(picture(m), "\n"))
			}
			suspended(t, m, n.groups...)
			if !sameNames(m.Table(), n.table) || m.Env().IO != n.env.IO {
				t.Fatal(line, picture(m))
			}
		}
	}
}

func sameNames(a, b *names.Table) bool {
	all := []api.Class{api.Label, api.Variable, api.Function}
	if !slices.Equal(a.List(all...), b.List(all...)) || a.Depth() != b.Depth() {
		return false
	}
	for _, name := range a.List(all...) {
		x, _ := a.Get(name)
		y, _ := b.Get(name)
		if x.Class != y.Class || x.Line != y.Line || !define.Same(x.Fn, y.Fn) || x.Class == api.Variable && !array.Match(x.Array, y.Array) {
			return false
		}
	}
	for i := range a.Depth() {
		if !slices.Equal(a.Locals(i), b.Locals(i)) {
			return false
		}
	}
	return true
}
