package parse

import (
	"strings"

	"glyph/api"
	"glyph/array"
	"glyph/lex"
	"glyph/oper"
	"glyph/show"
)

// printer writes trees one behind the other. Of trees that are not right it writes what they have.
type printer struct {
	strings.Builder
}

func (p *printer) tree(t api.Tree) {
	switch t.Kind {
	case api.Const:
		p.WriteString("(" + literal(t.Array) + ")")
	case api.Name, api.Niladic:
		p.WriteString(t.Text)
	case api.Strand:
		p.WriteString("(")
		p.list(t.Parts, " ")
		p.WriteString(")")
	case api.Monadic, api.Dyadic:
		p.application(t)
	case api.Indexed:
		p.list(first(t.Parts, 1), "")
		p.places(t.Parts)
	case api.Assign, api.AssignAt:
		p.assignment(t)
	case api.Branch:
		p.WriteString("→")
		p.list(first(t.Parts, 1), "")
	case api.Guard:
		p.list(first(t.Parts, 2), ":")
	}
}

// list writes trees with a text between two.
func (p *printer) list(l []api.Tree, between string) {
	for i, t := range l {
		if i > 0 {
			p.WriteString(between)
		}
		p.tree(t)
	}
}

// places writes, in brackets, all parts but the first one.
func (p *printer) places(parts []api.Tree) {
	p.WriteString("[")
	p.list(parts[min(len(parts), 1):], ";")
	p.WriteString("]")
}

func (p *printer) application(t api.Tree) {
	p.WriteString("(")
	right := t.Parts
	if t.Kind == api.Dyadic {
		p.list(first(right, 1), "")
		p.WriteString(" ")
		right = right[min(len(right), 1):]
	}
	p.functions(t.Fn)
	p.WriteString(" ")
	p.list(first(right, 1), "")
	p.WriteString(")")
}

func (p *printer) assignment(t api.Tree) {
	p.WriteString("(" + t.Text)
	if t.Kind == api.AssignAt {
		p.places(t.Parts)
	}
	p.WriteString("←")
	if t.Kind == api.Assign {
		p.functions(t.Fn)
	}
	p.list(first(t.Parts, 1), "")
	p.WriteString(")")
}

// functions writes the function of a tree, if it has one that may be.
func (p *printer) functions(l []api.Func) {
	if len(l) > 0 && oper.Right(l[0]) {
		p.function(l[0])
	}
}

// function writes a right function.
func (p *printer) function(f api.Func) {
	switch {
	case f.Kind == api.Op2 && len(f.Parts) == 2:
		p.function(f.Parts[0])
		p.WriteString(f.Text)
		p.function(f.Parts[1])
	case f.Kind == api.Op2:
		p.WriteString(f.Text)
		p.function(f.Parts[0])
	case f.Kind == api.Op1:
		p.function(f.Parts[0])
		p.WriteString(f.Text)
	case f.Kind == api.AxisOf:
		p.function(f.Parts[0])
		p.WriteString("[")
		p.tree(f.Where[0])
		p.WriteString("]")
	default:
		p.WriteString(f.Text)
	}
}

// first are the first ones of a list, so many at most.
func first(l []api.Tree, n int) []api.Tree {
	return l[:min(len(l), n)]
}

// literal is the text of a constant. (One character in quotes is a scalar: so a vector of one is not written so.)
func literal(a api.Array) string {
	text, ok := array.ToText(a)
	if ok && a.Items[0].Kind == api.Char && (len(a.Shape) == 0 || a.Shape[0] != 1) {
		return lex.Quote(text)
	}
	out, _ := show.Literal(a)
	return out
}
