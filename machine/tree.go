package machine

import (
	"slices"

	"glyph/api"
	"glyph/array"
	"glyph/oper"
	"glyph/parse"
	"glyph/pick"
)

// kinds are what each kind of trees does.
func kinds() map[api.TreeKind]func(*work, api.Tree) value {
	return map[api.TreeKind]func(*work, api.Tree) value{
		api.Const:    (*work).constant,
		api.Name:     (*work).name,
		api.Strand:   (*work).strand,
		api.Monadic:  (*work).monadic,
		api.Dyadic:   (*work).dyadic,
		api.Indexed:  (*work).indexed,
		api.Assign:   (*work).assign,
		api.AssignAt: (*work).assignAt,
		api.Branch:   (*work).misplaced,
		api.Niladic:  (*work).niladic,
		api.Guard:    (*work).misplaced,
		api.None:     (*work).nothing,
	}
}

func (w *work) constant(t api.Tree) value {
	return value{t.Array, true}
}

func (w *work) nothing(t api.Tree) value {
	return value{}
}

// misplaced is a branch or a guard where none may stand.
func (w *work) misplaced(t api.Tree) value {
	w.fail(api.Syntax, t.At)
	return value{}
}

func (w *work) name(t api.Tree) value {
	a, e := w.named(t.Text)
	w.must(e, t.At)
	return value{a, true}
}

// named is the value of a name.
func (w *work) named(name string) (api.Array, api.Errno) {
	if parse.IsVariable(name) {
		return w.ofSystem(name)
	}
	b, _ := w.table.Get(name)
	switch b.Class {
	case api.Variable:
		return b.Array, api.OK
	case api.Label:
		return array.Int(b.Line), api.OK
	case api.Function:
		return api.Array{}, api.Syntax
	}
	return api.Array{}, api.Value
}

// ofSystem is the value of a system variable.
func (w *work) ofSystem(name string) (api.Array, api.Errno) {
	switch name {
	case "⎕IO":
		return array.Int(w.env.IO), api.OK
	case "⎕CT":
		return array.Rat(w.env.CT), api.OK
	case "⎕PP":
		return array.Int(w.env.PP), api.OK
	}
	return api.Array{}, api.Domain
}

func (w *work) strand(t api.Tree) value {
	items := make([]api.Item, len(t.Parts))
	for i, part := range slices.Backward(t.Parts) {
		items[i] = array.Enclose(w.array(part))
	}
	a, e := array.Make([]int{len(items)}, items...)
	w.must(e, t.At)
	return value{a, true}
}

func (w *work) monadic(t api.Tree) value {
	return w.applied(t.Fn[0], nil, w.array(t.Parts[0]))
}

func (w *work) dyadic(t api.Tree) value {
	right := w.array(t.Parts[1])
	return w.applied(t.Fn[0], []api.Array{w.array(t.Parts[0])}, right)
}

// applied is what a function tells of arguments: nothing, if it is one that is called, and that tells nothing.
func (w *work) applied(f api.Func, left []api.Array, right api.Array) value {
	if !oper.Right(f) {
		w.fail(api.Syntax, f.At)
	}
	levels := levelsOf(f)
	w.goDown(levels, f.At)
	by := &application{work: w}
	a, e := oper.Apply(by, f, left, right)
	w.levels -= levels
	if by.silent && (f.Kind == api.User || f.Kind == api.Dfn) {
		return value{}
	}
	w.must(e, f.At)
	return value{a, true}
}

// levelsOf is how many levels of functions in one another a function has.
func levelsOf(f api.Func) int {
	below := 0
	for _, part := range f.Parts {
		below = max(below, levelsOf(part))
	}
	return below + 1
}

// niladic is what a function without arguments tells.
func (w *work) niladic(t api.Tree) value {
	w.standAt(t.At)
	v, e := w.called(api.Func{Kind: api.User, Text: t.Text}, nil, nil)
	w.must(e, t.At)
	return v
}

func (w *work) indexed(t api.Tree) value {
	places := w.places(t.Parts[1:])
	of := w.array(t.Parts[0])
	// What is set is asked behind it: it may have set the origin.
	a, e := pick.At(w.Env(), of, places...)
	w.must(e, t.At)
	return value{a, true}
}

// places are the values of places, the last one first; of one that is left out there is none.
func (w *work) places(l []api.Tree) [][]api.Array {
	out := make([][]api.Array, len(l))
	for i, t := range slices.Backward(l) {
		if t.Kind != api.None {
			out[i] = []api.Array{w.array(t)}
		}
	}
	return out
}
