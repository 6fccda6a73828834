package names

import (
	"iter"
	"slices"

	"glyph/api"
)

// frames yields all of a table's, the uppermost one first, what is outside at last.
func (t *Table) frames() iter.Seq[*frame] {
	return func(yield func(*frame) bool) {
		for i := range slices.Backward(t.upon) {
			if !yield(&t.upon[i]) {
				return
			}
		}
		yield(&t.frame)
	}
}

// place is the frame that says what a name is now.
func (t *Table) place(name string) *frame {
	for f := range t.frames() {
		if f.localises(name) {
			return f
		}
	}
	return &t.frame
}

// now yields each name that has something now, with its class, in no order.
func (t *Table) now() iter.Seq2[string, api.Class] {
	return func(yield func(string, api.Class) bool) {
		shadowed := map[string]struct{}{}
		for f := range t.frames() {
			for name, b := range f.has {
				if _, ok := shadowed[name]; !ok && !yield(name, b.Class) {
					return
				}
			}
			// A name shadows those below it also where it has nothing.
			for _, name := range f.locals {
				shadowed[name] = struct{}{}
			}
		}
	}
}

// set lets a name have a copy of something now, unless it is of another class, or there is no room.
func (t *Table) set(name string, b Bound) api.Errno {
	f := t.place(name)
	old, ok := f.has[name]
	switch {
	case ok && old.Class != b.Class:
		return api.Domain
	case !ok && t.count() >= api.MaxNames:
		return api.ErrFull
	}
	f.put(name, b)
	return api.OK
}

// count is how many names have something, in all frames and outside together.
func (t *Table) count() int {
	count := 0
	for f := range t.frames() {
		count += len(f.has)
	}
	return count
}
