package workspace

import (
	"iter"
	"slices"
	"strings"

	"glyph/api"
	"glyph/array"
	"glyph/define"
	"glyph/machine"
	"glyph/names"
	"glyph/rat"
	"glyph/show"
	"glyph/typed"
)

// Variable and Function are the lines of one.
func Variable(name string, a api.Array) (string, api.Errno) {
	switch {
	case !names.IsName(name):
		return "", api.ErrName
	case !array.Right(a):
		return "", api.ErrForm
	}
	literal, _ := show.Literal(a)
	return assignment(name, literal)
}

func Function(f api.Fn) ([]string, api.Errno) {
	if !f.Braces {
		return typedFunction(f)
	}
	if !names.IsName(f.Name) {
		return nil, api.ErrName
	}
	if _, e := define.Parts(f); e != api.OK {
		return nil, api.ErrForm
	}
	line, e := assignment(f.Name, f.Lines[0])
	if e != api.OK {
		return nil, e
	}
	return []string{line}, api.OK
}

// assignment is the line that lets a name be what a text says; or why there is none.
func assignment(name, text string) (string, api.Errno) {
	line := name + "←" + text
	switch {
	case hasFeed(line):
		return "", api.ErrForm
	case len(line) > api.MaxLine:
		return "", api.Limit
	}
	return line, api.OK
}

// typedFunction is the lines by which a function of lines is typed. A session takes each of them as it is, but one that is a ∇ ends the function, and a line feed ends a line.
func typedFunction(f api.Fn) ([]string, api.Errno) {
	made, e, _ := define.Make(f.Lines...)
	if e != api.OK || !define.Same(made, f) || slices.ContainsFunc(f.Lines[1:], typed.IsNabla) || slices.ContainsFunc(f.Lines, hasFeed) {
		return nil, api.ErrForm
	}
	return slices.Concat([]string{typed.Nabla + f.Lines[0]}, f.Lines[1:], []string{typed.Nabla}), api.OK
}

func hasFeed(line string) bool {
	return strings.Contains(line, typed.Feed)
}

// linesOf yields a workspace's lines; or, beside an error, an empty one: then it ends.
func linesOf(m *machine.Machine) iter.Seq2[string, api.Errno] {
	return func(yield func(string, api.Errno) bool) {
		for _, line := range settings(m.Env()) {
			if !yield(line, api.OK) {
				return
			}
		}
		for x := range outside(m) {
			l, e := x.lines()
			if e != api.OK {
				yield("", e)
				return
			}
			for _, line := range l {
				if !yield(line, api.OK) {
					return
				}
			}
		}
	}
}

// settings are the lines that set what a workspace sets.
func settings(e api.Env) []string {
	return []string{"⎕IO←" + rat.Print(rat.OfInt(e.IO)), "⎕CT←" + rat.Print(e.CT), "⎕PP←" + rat.Print(rat.OfInt(e.PP))}
}

// lines are those that let a name have what it has.
func (x entry) lines() ([]string, api.Errno) {
	if x.Class == api.Function {
		return Function(x.Fn)
	}
	line, e := Variable(x.name, x.Array)
	if e != api.OK {
		return nil, e
	}
	return []string{line}, api.OK
}
