package machine

import (
	"strings"

	"glyph/api"
	"glyph/array"
	"glyph/define"
	"glyph/names"
)

const (
	blank    = " "
	trap     = "⎕EA"
	notAName = 4 // what ⎕NC tells of it, behind the classes
)

// system is a system function.
type system struct{ name string }

// systems are what each system function of one argument does.
func systems() map[string]func(*work, api.Array) (api.Array, api.Errno) {
	return map[string]func(*work, api.Array) (api.Array, api.Errno){
		"⎕FX": (*work).fix,
		"⎕CR": (*work).canon,
		"⎕EX": (*work).expunge,
		"⎕NC": (*work).classes,
		"⎕ES": (*work).signal,
	}
}

func (s system) call(w *work, left, right []api.Array) (value, api.Errno) {
	switch {
	case len(right) == 0 || (len(left) > 0) != (s.name == trap):
		return value{}, api.Syntax
	case s.name == trap:
		texts, e := textsOf(left[0], right[0])
		if e != api.OK {
			return value{}, e
		}
		return w.trapped(texts[1], texts[0]), api.OK
	}
	a, e := w.systems[s.name](w, right[0])
	return value{a, e == api.OK}, e
}

// fix defines a function: its name, or the number of the line that is wrong.
func (w *work) fix(a api.Array) (api.Array, api.Errno) {
	f, e, line := define.FromArray(a)
	switch {
	case e == api.ErrDefn:
		return array.Int(line), api.OK
	case e != api.OK || f.Braces:
		return api.Array{}, api.Domain
	}
	if e := w.define(f); e != api.OK {
		return api.Array{}, e
	}
	return array.Text(f.Name), api.OK
}

// canon is the lines of a function.
func (w *work) canon(a api.Array) (api.Array, api.Errno) {
	texts, e := textsOf(a)
	if e != api.OK {
		return api.Array{}, e
	}
	b, _ := w.table.Get(texts[0])
	if b.Class != api.Function {
		return array.Make([]int{0, 0}, array.Proto(array.Text("")))
	}
	return define.Canon(b.Fn)
}

// expunge erases names: of each, whether it is one, and has nothing.
func (w *work) expunge(a api.Array) (api.Array, api.Errno) {
	return ofNames(a, func(name string) int {
		w.erase(name)
		if names.IsName(name) && w.table.Class(name) == api.Free {
			return 1
		}
		return 0
	})
}

// classes are those of names.
func (w *work) classes(a api.Array) (api.Array, api.Errno) {
	return ofNames(a, func(name string) int {
		if !names.IsName(name) {
			return notAName
		}
		return int(w.table.Class(name))
	})
}

// signal has the error that a number is.
func (w *work) signal(a api.Array) (api.Array, api.Errno) {
	if len(array.Items(a)) != 1 {
		return api.Array{}, api.Length
	}
	n, ok := array.ToInt(a)
	if !ok || n < int(api.Syntax) || n > int(api.Limit) {
		return api.Array{}, api.Domain
	}
	return api.Array{}, api.Errno(n)
}

// ofNames is a number of each name that an array has; of one name it is a scalar.
func ofNames(a api.Array, number func(name string) int) (api.Array, api.Errno) {
	l, e := namesOf(a)
	if e != api.OK {
		return api.Array{}, e
	}
	var out []int
	for _, name := range l {
		out = append(out, number(name))
	}
	if len(out) == 1 {
		return array.Int(out[0]), api.OK
	}
	return array.Ints(out...), api.OK
}

// namesOf are the rows of a matrix of characters, without blanks at their ends, or the one text that another array is.
func namesOf(a api.Array) ([]string, api.Errno) {
	if len(a.Shape) != 2 {
		return textsOf(a)
	}
	height, width := a.Shape[0], a.Shape[1]
	// The items of a matrix, one behind the other, are characters if they are those of a text.
	flat := api.Array{Shape: []int{height * width}, Items: a.Items}
	if _, ok := array.ToText(flat); !ok {
		return nil, api.Domain
	}
	out := make([]string, height)
	for i := range out {
		var row strings.Builder
		for _, item := range array.Items(flat)[i*width : (i+1)*width] {
			row.WriteRune(item.Char)
		}
		out[i] = strings.TrimRight(row.String(), blank)
	}
	return out, api.OK
}
