package machine

import (
	"slices"

	"glyph/api"
	"glyph/array"
	"glyph/define"
	"glyph/lex"
	"glyph/parse"
	"glyph/rat"
)

// callable is what can be called, with a left argument and a right one, or without.
type callable interface {
	call(w *work, left, right []api.Array) (value, api.Errno)
}

// tradfn is a function of lines, dfn one in braces.
type (
	tradfn struct{ api.Fn }
	dfn    struct{ api.Fn }
)

// application is who oper calls by for a function that is being applied: its steps, and what is set, are the line's.
type application struct {
	*work
	silent bool // what was called told nothing
}

// Call calls a function that is no primitive, or executes a text: meanwhile the statement stands there. Where an operator wants a value, that there is none is an error.
func (p *application) Call(f api.Func, left []api.Array, right api.Array) (api.Array, api.Errno) {
	p.standAt(f.At)
	v, e := p.called(f, left, []api.Array{right})
	switch {
	case e != api.OK:
		return api.Array{}, e
	case !v.has:
		p.silent = true
		return api.Array{}, api.Value
	}
	return v.Array, api.OK
}

// Axis is the value of an axis.
func (p *application) Axis(f api.Func) (api.Array, api.Errno) {
	return p.array(f.Where[0]), api.OK
}

// called is what a function tells that is no primitive, or ⍎.
func (w *work) called(f api.Func, left, right []api.Array) (value, api.Errno) {
	of, e := w.callable(f)
	if e != api.OK {
		return value{}, e
	}
	return of.call(w, left, right)
}

func (w *work) callable(f api.Func) (callable, api.Errno) {
	switch {
	case f.Kind == api.Prim:
		return execute{}, api.OK
	case f.Kind == api.Dfn:
		fn, e := define.Dfn(f.Text)
		if e != api.OK {
			return nil, api.Syntax
		}
		return dfn{fn}, api.OK
	case f.Text == "∇":
		if d, ok := w.here().of.(dfn); ok {
			return d, api.OK
		}
		return nil, api.Syntax
	case parse.IsSystem(f.Text):
		return system{f.Text}, api.OK
	}
	return w.function(f.Text)
}

// function is the function that a name is now.
func (w *work) function(name string) (callable, api.Errno) {
	b, _ := w.table.Get(name)
	switch {
	case b.Class != api.Function:
		return nil, api.Syntax
	case b.Fn.Braces:
		return dfn{b.Fn}, api.OK
	}
	return tradfn{b.Fn}, api.OK
}

func (f tradfn) call(w *work, left, right []api.Array) (value, api.Errno) {
	if len(left) > 0 && f.Left == "" || (len(right) > 0) != (f.Right != "") {
		return value{}, api.Syntax
	}
	if e := w.enter(f, f.Fn, define.Locals(f.Fn), argument{f.Left, left}, argument{f.Right, right}); e != api.OK {
		return value{}, e
	}
	parts := make([][]string, len(f.Lines))
	for line := 1; 1 <= line && line < len(f.Lines); {
		line = f.do(w, line, parts)
	}
	result, _ := w.table.Get(f.Result)
	w.leaveTo(len(w.going) - 1)
	return value{result.Array, result.Class == api.Variable}, api.OK
}

// do does a line: the number of that which goes on. The parts of lines are kept, as lines may come again and again.
func (f tradfn) do(w *work, line int, parts [][]string) int {
	w.here().Line = line
	if parts[line] == nil {
		body, _ := define.Body(f.Fn, line)
		parts[line] = w.cut(body)
	}
	for _, part := range parts[line] {
		t := w.begin(part)
		if t.Kind != api.Branch {
			w.tell(t)
		} else if next, ok := w.branch(t); ok {
			return next
		}
	}
	return line + 1
}

// branch is the line to which a branch goes; false: to none, and what stands behind it goes on.
func (w *work) branch(t api.Tree) (int, bool) {
	if len(t.Parts) == 0 {
		panic(leaving{})
	}
	items := array.Items(w.array(t.Parts[0]))
	if len(items) == 0 {
		return 0, false
	}
	if items[0].Kind != api.Number || !rat.IsInt(items[0].Num) {
		w.fail(api.Domain, t.At)
	}
	// One that no int holds is no line, and 0 is none, either.
	line, _ := rat.ToInt(items[0].Num)
	return line, true
}

func (f dfn) call(w *work, left, right []api.Array) (value, api.Errno) {
	locals := slices.Concat(define.Locals(f.Fn), namesAssigned(f.Lines[0]))
	if e := w.enter(f, f.Fn, locals, argument{"⍺", left}, argument{"⍵", right}); e != api.OK {
		return value{}, e
	}
	v := f.do(w)
	w.leaveTo(len(w.going) - 1)
	return v, api.OK
}

// namesAssigned are the names that stand ahead of an arrow in a text, each once.
func namesAssigned(text string) []string {
	tokens, _, _ := lex.All(text)
	var out []string
	for i, t := range tokens {
		if t.Kind == lex.Name && tokens[i+1].Text == "←" && !slices.Contains(out, t.Text) {
			out = append(out, t.Text)
		}
	}
	return out
}

// do does the parts, until one tells what the call tells.
func (f dfn) do(w *work) value {
	parts, _ := define.Parts(f.Fn)
	for i, part := range parts {
		w.here().Line = i + 1
		if v, over := w.partOfDfn(w.begin(part)); over {
			return v
		}
	}
	return value{}
}

// partOfDfn is what a part of a dfn tells; false: the call goes on.
func (w *work) partOfDfn(t api.Tree) (value, bool) {
	switch t.Kind {
	case api.None:
		return value{}, false
	case api.Guard:
		return w.guard(t)
	case api.Assign, api.AssignAt:
		if t.Kind == api.AssignAt || t.Text != "⍺" || w.table.Class("⍺") == api.Free {
			w.value(t)
		}
		return value{}, false
	}
	return w.value(t), true
}

// guard is the value behind a guard, if it holds.
func (w *work) guard(t api.Tree) (value, bool) {
	a := w.array(t.Parts[0])
	if len(array.Items(a)) != 1 {
		w.fail(api.Length, t.At)
	}
	n, ok := truth(a)
	switch {
	case !ok:
		w.fail(api.Domain, t.At)
	case n == 0:
		return value{}, false
	}
	return value{w.array(t.Parts[1]), true}, true
}
