package machine

import (
	"glyph/api"
	"glyph/array"
	"glyph/lex"
	"glyph/show"
)

// deepest is how many levels of trees and functions in one another are gone down. It is more than all for which something is promised, and less than what there is room for.
const deepest = 1 << 17

// work is a line that is being done by a machine.
type work struct {
	*Machine
	outside     call // where the line itself stands
	shown       []string
	steps, used int
	levels      int // of trees and functions that are gone down now
	kinds       map[api.TreeKind]func(*work, api.Tree) value
	systems     map[string]func(*work, api.Array) (api.Array, api.Errno)
	readings    map[string]reading
}

func newWork(m *Machine, steps int) *work {
	return &work{Machine: m, steps: steps, kinds: kinds(), systems: systems(), readings: map[string]reading{}}
}

// value is what a tree has: an array, or (has is false) nothing.
type value struct {
	api.Array
	has bool
}

// failure is what is being done is given up by, with an error: its place stands in the calls. leaving is what a whole line is left by.
type (
	failure struct{ errno api.Errno }
	leaving struct{}
)

// caught does something, to its end, or until it is given up, or left.
func (w *work) caught(do func()) (errno api.Errno, left bool) {
	defer func() {
		switch x := recover().(type) {
		case nil:
		case failure:
			errno = x.errno
		case leaving:
			left = true
		default:
			panic(x)
		}
	}()
	do()
	return api.OK, false
}

// here is the innermost call that goes on, or the line itself.
func (w *work) here() *call {
	if len(w.going) == 0 {
		return &w.outside
	}
	return w.going[len(w.going)-1]
}

// standAt is the place at which the statement is now.
func (w *work) standAt(place int) {
	if c := w.here(); !c.held {
		c.At = place
	}
}

// fail gives up at a place.
func (w *work) fail(e api.Errno, place int) {
	w.standAt(place)
	panic(failure{e})
}

// must gives up at a place, if there is an error.
func (w *work) must(e api.Errno, place int) {
	if e != api.OK {
		w.fail(e, place)
	}
}

// Step takes a step, if there is one left.
func (w *work) Step() api.Errno {
	if w.used >= w.steps {
		return api.Interrupt
	}
	w.used++
	return api.OK
}

// line does the parts of a line by itself.
func (w *work) line(line string) {
	w.outside.Text = line
	for _, part := range w.cut(line) {
		t := w.begin(part)
		switch {
		case t.Kind == api.Branch && len(t.Parts) == 0:
			w.leaveGroup()
		case t.Kind == api.Branch:
			w.array(t.Parts[0])
			w.fail(api.Syntax, t.At)
		default:
			w.tell(t)
		}
	}
}

// cut are the parts of a line.
func (w *work) cut(line string) []string {
	parts, e, at := lex.Split(line)
	w.must(ofTokens(e), at)
	return parts
}

// ofTokens is an error of lex or parse as one of APL.
func ofTokens(e api.Errno) api.Errno {
	switch e {
	case api.ErrLong, api.ErrText, api.ErrName, api.ErrForm:
		return api.Syntax
	}
	return e
}

// begin lets the innermost call stand at a part: its tree.
func (w *work) begin(part string) api.Tree {
	c := w.here()
	c.Text, c.At = part, 0
	return w.statement(part)
}

// statement takes the step of a part: its tree.
func (w *work) statement(part string) api.Tree {
	w.must(w.Step(), 0)
	t, e, at := w.read(part)
	w.must(ofTokens(e), at)
	return t
}

// tell shows the value of a part, if it has one that is to be shown.
func (w *work) tell(t api.Tree) {
	v := w.value(t)
	if v.has && t.Kind != api.Assign && t.Kind != api.AssignAt {
		w.show(v.Array, t.At)
	}
}

func (w *work) show(a api.Array, place int) {
	lines, e := show.Lines(a)
	w.must(e, place)
	w.shown = append(w.shown, lines...)
}

// value is that of a tree.
func (w *work) value(t api.Tree) value {
	w.goDown(1, t.At)
	v := w.kinds[t.Kind](w, t)
	w.levels--
	return v
}

// goDown goes down so many levels. What would go on beyond the deepest one is taken for what does not end: all its steps are taken.
func (w *work) goDown(levels, place int) {
	w.levels += levels
	if w.levels > deepest {
		w.used = w.steps
		w.fail(api.Interrupt, place)
	}
}

// array is the value of a tree that must have one.
func (w *work) array(t api.Tree) api.Array {
	v := w.value(t)
	if !v.has {
		w.fail(api.Value, t.At)
	}
	return v.Array
}

// truth is the number 0 or 1 that an array of one item is; false: it is none.
func truth(a api.Array) (int, bool) {
	n, ok := array.ToInt(a)
	return n, ok && (n == 0 || n == 1)
}
