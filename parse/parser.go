package parse

import (
	"strings"

	"glyph/api"
	"glyph/lex"
)

// Glyphs that begin no function; and those that make another one of that ahead of them.
const (
	noBegin   = "¨.⍨"
	operators = `/⌿\⍀¨⍨`
)

// parser goes down a line's tokens.
type parser struct {
	reader
	known map[string]Known
	depth int
}

// parsed is the tree of all tokens; or what it was given up for, and where.
func (p *parser) parsed() (t api.Tree, e api.Errno, at int) {
	defer func() {
		switch x := recover().(type) {
		case nil:
		case refusal:
			t, e, at = api.Tree{}, x.errno, x.at
		default:
			panic(x)
		}
	}()
	t = p.statement()
	if !p.isEnd() {
		p.refuse()
	}
	return t, api.OK, 0
}

func (p *parser) statement() api.Tree {
	switch {
	case p.isEnd():
		return api.Tree{Kind: api.None}
	case p.is("→"):
		return p.branch()
	}
	t := p.expression()
	if !p.is(":") {
		return t
	}
	at := p.read().At
	return api.Tree{Kind: api.Guard, Parts: []api.Tree{t, p.expression()}, At: at}
}

func (p *parser) branch() api.Tree {
	t := api.Tree{Kind: api.Branch, At: p.read().At}
	if !p.isEnd() {
		t.Parts = []api.Tree{p.expression()}
	}
	return t
}

// open passes a bracket, unless it is too deep; close passes its fellow.
func (p *parser) open() lex.Token {
	if p.depth == api.MaxNest {
		giveUp(api.Limit, p.token().At)
	}
	p.depth++
	return p.read()
}

func (p *parser) close(bracket string) {
	p.need(bracket)
	p.depth--
}

// role is what a token begins.
type role uint8

const (
	beginsNothing role = iota
	beginsAtom
	beginsFunction
)

// role is that of the next token.
func (p *parser) role() role {
	t := p.token()
	switch t.Kind {
	case lex.Number, lex.Text:
		return beginsAtom
	case lex.Name:
		if k, ok := p.known[t.Text]; ok && !k.Niladic {
			return beginsFunction
		}
		return beginsAtom
	case lex.Quad:
		return roleOfQuad(t.Text)
	case lex.Glyph:
		if !strings.Contains(noBegin, t.Text) {
			return beginsFunction
		}
	case lex.Sign:
		return roleOfSign(t.Text)
	}
	return beginsNothing
}

func roleOfQuad(name string) role {
	switch {
	case IsVariable(name):
		return beginsAtom
	case IsSystem(name):
		return beginsFunction
	}
	return beginsNothing
}

func roleOfSign(sign string) role {
	switch sign {
	case "(", "⍺", "⍵":
		return beginsAtom
	case "∇", "{":
		return beginsFunction
	}
	return beginsNothing
}

// strand is atoms side by side, one at least.
func (p *parser) strand() api.Tree {
	var l []api.Tree
	for p.role() == beginsAtom {
		l = append(l, p.indexed(p.atom()))
	}
	if len(l) == 1 {
		return l[0]
	}
	return api.Tree{Kind: api.Strand, Parts: l, At: l[0].At}
}

// atom is what the next token begins, without places.
func (p *parser) atom() api.Tree {
	if p.is("(") {
		p.open()
		t := p.expression()
		p.close(")")
		return t
	}
	t := p.read()
	switch {
	case t.Kind == lex.Number || t.Kind == lex.Text:
		return api.Tree{Kind: api.Const, Array: t.Array, At: t.At}
	case t.Kind == lex.Name && p.known[t.Text].Niladic:
		return api.Tree{Kind: api.Niladic, Text: t.Text, At: t.At}
	}
	return api.Tree{Kind: api.Name, Text: t.Text, At: t.At}
}

// indexed is a tree with all places that stand behind it.
func (p *parser) indexed(t api.Tree) api.Tree {
	for p.is("[") {
		at := p.open().At
		parts := []api.Tree{t, p.place()}
		for p.passed(";") {
			parts = append(parts, p.place())
		}
		p.close("]")
		t = api.Tree{Kind: api.Indexed, Parts: parts, At: at}
	}
	return t
}

// place is an expression, or that there is none.
func (p *parser) place() api.Tree {
	if p.is(";") || p.is("]") {
		return api.Tree{Kind: api.None}
	}
	return p.expression()
}
