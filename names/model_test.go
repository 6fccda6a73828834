package names_test

import (
	"slices"
	"testing"

	"glyph/api"
	"glyph/array"
	"glyph/names"
)

// model is a table as the chapter's words have it: all that happened, of each name what it has in each frame (0: outside).
type model struct {
	frames [][]string // the names of each frame, the lowest first
	has    []entry
}

type entry struct {
	name  string
	frame int
	bound names.Bound
}

func (m *model) fork() *model {
	return &model{frames: slices.Clone(m.frames), has: slices.Clone(m.has)}
}

// frameOf is the number of the uppermost frame, from 1 on, that localises a name; 0: none.
func (m *model) frameOf(name string) int {
	for k := len(m.frames); k > 0; k-- {
		if slices.Contains(m.frames[k-1], name) {
			return k
		}
	}
	return 0
}

func (m *model) find(name string, frame int) int {
	return slices.IndexFunc(m.has, func(e entry) bool { return e.name == name && e.frame == frame })
}

func (m *model) get(name string, frame int) (names.Bound, bool) {
	if k := m.find(name, frame); k >= 0 {
		return m.has[k].bound, true
	}
	return names.Bound{}, false
}

func (m *model) set(name string, b names.Bound) api.Errno {
	frame := m.frameOf(name)
	k := m.find(name, frame)
	switch {
	case k >= 0 && m.has[k].bound.Class != b.Class:
		return api.Domain
	case k < 0 && len(m.has) == api.MaxNames:
		return api.ErrFull
	case k < 0:
		m.has = append(m.has, entry{name, frame, b})
	default:
		m.has[k].bound = b
	}
	return api.OK
}

func (m *model) erase(l ...string) int {
	count := 0
	for _, name := range l {
		if k := m.find(name, m.frameOf(name)); k >= 0 {
			m.has = slices.Delete(m.has, k, k+1)
			count++
		}
	}
	return count
}

func (m *model) push(l ...string) api.Errno {
	if len(m.frames) == api.MaxFrames {
		return api.ErrFull
	}
	var once []string
	for _, name := range l {
		if !slices.Contains(once, name) {
			once = append(once, name)
		}
	}
	m.frames = append(m.frames, once)
	return api.OK
}

func (m *model) pop() api.Errno {
	if len(m.frames) == 0 {
		return api.ErrNone
	}
	m.has = slices.DeleteFunc(m.has, func(e entry) bool { return e.frame == len(m.frames) })
	m.frames = m.frames[:len(m.frames)-1]
	return api.OK
}

func (m *model) list(classes ...api.Class) []string {
	var out []string
	for _, e := range m.has {
		if e.frame == m.frameOf(e.name) && slices.Contains(classes, e.bound.Class) {
			out = append(out, e.name)
		}
	}
	slices.Sort(out)
	return out
}

// agree holds a table against its model.
func agree(t *testing.T, n *names.Table, m *model, pool []string) {
	t.Helper()
	if n.Depth() != len(m.frames) {
		t.Fatal("Depth", n.Depth(), len(m.frames))
	}
	for k, want := range m.frames {
		if got := n.Locals(k); !slices.Equal(got, want) {
			t.Fatal("Locals", k, got, want)
		}
	}
	for _, name := range pool {
		want, ok := m.get(name, m.frameOf(name))
		if got, is := n.Get(name); is != ok || !alike(got, want) || n.Class(name) != want.Class {
			t.Fatal("Get", name, got, want)
		}
		want, ok = m.get(name, 0)
		if got, is := n.Global(name); is != ok || !alike(got, want) {
			t.Fatal("Global", name, got, want)
		}
	}
	for _, classes := range [][]api.Class{{api.Label}, {api.Variable}, {api.Function}, {api.Function, api.Label, api.Free}} {
		if got, want := n.List(classes...), m.list(classes...); !slices.Equal(got, want) {
			t.Fatal("List", classes, got, want)
		}
	}
}

// some are names out of a pool.
func some(d *dice, pool []string, most int) []string {
	var out []string
	for range d.next(most + 1) {
		out = append(out, pool[d.next(len(pool))])
	}
	return out
}

// step does one thing with a table and its model.
func step(t *testing.T, d *dice, n *names.Table, m *model, pool []string) {
	t.Helper()
	name, number := pool[d.next(len(pool))], d.next(1000)
	switch d.next(10) {
	case 0, 1:
		says(t, "SetVar", n.SetVar(name, array.Int(number)), m.set(name, variable(array.Int(number))))
	case 2:
		f := rich(name)
		f.At = []int{number}
		says(t, "SetFn", n.SetFn(f), m.set(name, function(f)))
	case 3:
		says(t, "SetLabel", n.SetLabel(name, number), m.set(name, label(number)))
	case 4, 5:
		l := some(d, pool, 3)
		if got, want := n.Erase(l...), m.erase(l...); got != want {
			t.Fatal("Erase", l, got, want)
		}
	case 6, 7:
		l := some(d, pool, 5)
		says(t, "Push", n.Push(l...), m.push(l...))
	case 8:
		says(t, "Pop", n.Pop(), m.pop())
	default:
		for range 20 { // many at once, so that the table is full at times
			k := d.next(600)
			other := numbered("M", k)
			says(t, "SetVar", n.SetVar(other, array.Int(k)), m.set(other, variable(array.Int(k))))
		}
	}
}

func TestTablesAsTheWordsHaveThem(t *testing.T) { // P11.1 to P11.5, P4
	pool := []string{"A", "B", "C", "a", "_1", "∆", "⍺", "⍵", "M1", "M2"}
	d := dice(2463534242)
	tables, models := []*names.Table{names.New()}, []*model{{}}
	full := 0
	for i := range 4000 {
		k := d.next(len(tables))
		step(t, &d, tables[k], models[k], pool)
		agree(t, tables[k], models[k], pool)
		if len(models[k].has) == api.MaxNames {
			full++
		}
		if i%200 == 199 {
			other := d.next(3)
			fork, copied := tables[k].Fork(), models[k].fork()
			if other < len(tables) {
				tables[other], models[other] = fork, copied
			} else {
				tables, models = append(tables, fork), append(models, copied)
			}
			for k := range tables {
				agree(t, tables[k], models[k], pool)
			}
		}
	}
	if full == 0 {
		t.Error("no table was ever full")
	}
}

func TestBehindAPop(t *testing.T) { // P11.5, E5
	pool := []string{"A", "B", "C", "∆", "⍺", "⍵"}
	d := dice(88172645463325252)
	for range 300 {
		n, m := names.New(), &model{}
		for range 30 {
			step(t, &d, n, m, pool)
		}
		if n.Depth() == api.MaxFrames {
			continue
		}
		before, depth := n.Fork(), n.Depth()
		local := some(&d, pool, 4)
		says(t, "Push", n.Push(local...), api.OK)
		m.push(local...)
		for range 40 {
			if n.Depth() == depth+1 { // the one frame stays till the end
				n.Push()
				m.push()
			}
			step(t, &d, n, m, pool)
		}
		for n.Depth() > depth {
			says(t, "Pop", n.Pop(), m.pop())
		}
		for _, name := range local {
			want, ok := before.Get(name)
			if got, is := n.Get(name); is != ok || !alike(got, want) {
				t.Fatal(name, got, want)
			}
		}
	}
}
