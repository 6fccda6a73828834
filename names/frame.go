package names

import (
	"slices"

	"glyph/api"
	"glyph/array"
)

// frame is the names that it localises, as they came, and what names have there.
type frame struct {
	locals []string
	has    map[string]Bound
}

// localising is a frame of names, each once, without anything.
func localising(names []string) frame {
	var f frame
	for _, name := range names {
		if !f.localises(name) {
			f.locals = append(f.locals, name)
		}
	}
	return f
}

func (f *frame) localises(name string) bool {
	return slices.Contains(f.locals, name)
}

// get is a copy of what a name has there.
func (f *frame) get(name string) (Bound, bool) {
	b, ok := f.has[name]
	return copyOf(b), ok
}

// put lets a name have a copy of something there.
func (f *frame) put(name string, b Bound) {
	if f.has == nil {
		f.has = map[string]Bound{}
	}
	f.has[name] = copyOf(b)
}

// erase tells whether a name had something there.
func (f *frame) erase(name string) bool {
	_, ok := f.has[name]
	delete(f.has, name)
	return ok
}

// copied is a frame with lists of its own.
func (f *frame) copied() frame {
	out := frame{locals: slices.Clone(f.locals)}
	for name, b := range f.has {
		out.put(name, b)
	}
	return out
}

// copyOf is what a name has, with lists of its own.
func copyOf(b Bound) Bound {
	return Bound{Class: b.Class, Array: array.Copy(b.Array), Fn: copyFn(b.Fn), Line: b.Line}
}

func copyFn(f api.Fn) api.Fn {
	f.Locals, f.Labels, f.At, f.Lines = slices.Clone(f.Locals), slices.Clone(f.Labels), slices.Clone(f.At), slices.Clone(f.Lines)
	return f
}
