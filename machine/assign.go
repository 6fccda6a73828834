package machine

import (
	"glyph/api"
	"glyph/array"
	"glyph/define"
	"glyph/parse"
	"glyph/pick"
	"glyph/rat"
)

// mostDigits is the greatest ⎕PP.
const mostDigits = 34

func (w *work) assign(t api.Tree) value {
	if len(t.Fn) > 0 {
		w.must(w.assignFunction(t.Text, t.Fn[0]), t.At)
		return value{}
	}
	a := w.array(t.Parts[0])
	if t.Text == "⎕" {
		w.show(a, t.At)
	} else {
		w.must(w.set(t.Text, a), t.At)
	}
	return value{a, true}
}

// assignFunction lets a name be a function in braces.
func (w *work) assignFunction(name string, f api.Func) api.Errno {
	if f.Kind != api.Dfn || parse.IsVariable(name) {
		return api.Syntax
	}
	fn, e := define.Dfn(f.Text)
	if e != api.OK {
		return api.Syntax
	}
	fn.Name = name
	return assigned(w.table.SetFn(fn))
}

// assigned is an error of names as one of an assignment.
func assigned(e api.Errno) api.Errno {
	switch e {
	case api.Domain:
		return api.Syntax
	case api.ErrFull:
		return api.Limit
	}
	return e
}

// set lets a name have a value, or sets a system variable that has one.
func (w *work) set(name string, a api.Array) api.Errno {
	switch name {
	case "⎕IO":
		return w.setOrigin(a)
	case "⎕CT":
		return w.setTolerance(a)
	case "⎕PP":
		return w.setDigits(a)
	}
	return assigned(w.table.SetVar(name, a))
}

func (w *work) setOrigin(a api.Array) api.Errno {
	n, ok := truth(a)
	if !ok {
		return api.Domain
	}
	w.env.IO = n
	return api.OK
}

func (w *work) setTolerance(a api.Array) api.Errno {
	items := array.Items(a)
	if len(items) != 1 || items[0].Kind != api.Number {
		return api.Domain
	}
	r := items[0].Num
	if rat.Sign(r) < 0 || rat.Compare(r, rat.OfInt(1)) >= 0 {
		return api.Domain
	}
	w.env.CT = r
	return api.OK
}

func (w *work) setDigits(a api.Array) api.Errno {
	n, ok := array.ToInt(a)
	if !ok || n < 1 || n > mostDigits {
		return api.Domain
	}
	w.env.PP = n
	return api.OK
}

func (w *work) assignAt(t api.Tree) value {
	a := w.array(t.Parts[0])
	places := w.places(t.Parts[1:])
	if parse.IsVariable(t.Text) {
		w.fail(api.Syntax, t.At)
	}
	old, e := w.named(t.Text)
	w.must(e, t.At)
	put, e := pick.PutAt(w.Env(), old, a, places...)
	w.must(e, t.At)
	w.must(w.set(t.Text, put), t.At)
	return value{a, true}
}
