package machine

import (
	"slices"

	"glyph/api"
)

// call is one that goes on: where it stands, and of what it is.
type call struct {
	Where
	of   callable
	held bool // a text is executed in it: its place stays that of what executes
}

// calls are those that go on, the innermost one last, and those that were left by errors, group by group, the last one last. Each of them has a frame of names.
type calls struct {
	going  []*call
	groups [][]Where
}

// isCalled tells whether a call of that name goes on, or is suspended.
func (c *calls) isCalled(name string) bool {
	for _, one := range c.going {
		if one.Name == name {
			return true
		}
	}
	for _, group := range c.groups {
		if slices.ContainsFunc(group, func(w Where) bool { return w.Name == name }) {
			return true
		}
	}
	return false
}

// suspend leaves the calls that go on as a group, if there are any.
func (c *calls) suspend() {
	if len(c.going) == 0 {
		return
	}
	var group []Where
	for _, one := range slices.Backward(c.going) {
		group = append(group, one.Where)
	}
	c.groups, c.going = append(c.groups, group), nil
}

// leaveTo ends the calls that go on, the innermost first, until so many are left.
func (m *Machine) leaveTo(count int) {
	for len(m.going) > count {
		m.table.Pop()
		m.going = slices.Delete(m.going, len(m.going)-1, len(m.going))
	}
}

// leaveGroup ends the calls of the last group, if there is one: how many.
func (m *Machine) leaveGroup() int {
	if len(m.groups) == 0 {
		return 0
	}
	last := len(m.groups) - 1
	count := len(m.groups[last])
	for range count {
		m.table.Pop()
	}
	m.groups = slices.Delete(m.groups, last, last+1)
	return count
}

func copyGroups(l [][]Where) [][]Where {
	var out [][]Where
	for _, group := range l {
		out = append(out, slices.Clone(group))
	}
	return out
}

// enter begins a call of a function, which localises names; or tells why it cannot be.
func (m *Machine) enter(of callable, f api.Fn, locals []string, arguments ...argument) api.Errno {
	if m.table.Push(locals...) != api.OK {
		return api.Limit
	}
	if !m.bind(f, arguments) {
		m.table.Pop()
		return api.Limit
	}
	m.going = append(m.going, &call{Where: Where{Name: titleOf(f)}, of: of})
	return api.OK
}

// argument is a name, and its value, if it is given one.
type argument struct {
	name  string
	value []api.Array
}

// bind lets arguments and labels have what they are in a call; false: there is no room for them.
func (m *Machine) bind(f api.Fn, arguments []argument) bool {
	for _, a := range arguments {
		for _, value := range a.value {
			if m.table.SetVar(a.name, value) != api.OK {
				return false
			}
		}
	}
	for i, label := range f.Labels {
		if m.table.SetLabel(label, f.At[i]) != api.OK {
			return false
		}
	}
	return true
}

// titleOf is by what a call of a function is told.
func titleOf(f api.Fn) string {
	if f.Name == "" {
		return "{}"
	}
	return f.Name
}
