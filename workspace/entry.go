package workspace

import (
	"iter"

	"glyph/api"
	"glyph/array"
	"glyph/define"
	"glyph/machine"
	"glyph/names"
	"glyph/rat"
)

// entry is a name, and what it has.
type entry struct {
	name string
	names.Bound
}

// outside yields what a workspace has outside of all frames, the names rising.
func outside(m *machine.Machine) iter.Seq[entry] {
	return func(yield func(entry) bool) {
		left := m.Fork()
		left.Reset(true)
		table := left.Table()
		for _, name := range table.List(api.Variable, api.Function) {
			b, _ := table.Get(name)
			if !yield(entry{name, b}) {
				return
			}
		}
	}
}

func sameEntry(x, y entry) bool {
	switch {
	case x.name != y.name || x.Class != y.Class:
		return false
	case x.Class == api.Function:
		return define.Same(x.Fn, y.Fn)
	}
	return array.Match(x.Array, y.Array)
}

func sameSettings(x, y api.Env) bool {
	return x.IO == y.IO && x.PP == y.PP && rat.Compare(x.CT, y.CT) == 0
}
