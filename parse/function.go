package parse

import (
	"strings"

	"glyph/api"
	"glyph/lex"
)

// function is a primary function, or an outer product, and all that operators and axes make of it.
func (p *parser) function() api.Func {
	f := p.firstFunction()
	for {
		switch t := p.token(); {
		case p.is("["):
			f = p.onAxis(f)
		case p.passed("."):
			f = api.Func{Kind: api.Op2, Text: ".", Parts: []api.Func{f, p.primary()}, At: f.At}
		case t.Kind == lex.Glyph && strings.Contains(operators, t.Text):
			f = api.Func{Kind: api.Op1, Text: p.read().Text, Parts: []api.Func{f}, At: f.At}
		default:
			return f
		}
	}
}

func (p *parser) firstFunction() api.Func {
	if !p.is("∘") {
		return p.primary()
	}
	at := p.read().At
	p.need(".")
	return api.Func{Kind: api.Op2, Text: "∘.", Parts: []api.Func{p.primary()}, At: at}
}

func (p *parser) onAxis(f api.Func) api.Func {
	p.open()
	where := p.expression()
	p.close("]")
	return api.Func{Kind: api.AxisOf, Parts: []api.Func{f}, Where: []api.Tree{where}, At: f.At}
}

// primary is a function that no operator made.
func (p *parser) primary() api.Func {
	t := p.token()
	switch {
	case p.role() != beginsFunction || p.is("∘"):
		p.refuse()
	case p.is("{"):
		return api.Func{Kind: api.Dfn, Text: p.braces(), At: t.At}
	case t.Kind == lex.Glyph:
		return api.Func{Kind: api.Prim, Text: p.read().Text, At: t.At}
	}
	return api.Func{Kind: api.User, Text: p.read().Text, At: t.At}
}

// braces passes all from a brace to its fellow: it is their text, as it stands.
func (p *parser) braces() string {
	first := p.read()
	for open := 1; ; {
		switch {
		case p.isEnd():
			p.refuse()
		case p.is("{"):
			open++
		case p.is("}"):
			open--
		}
		if t := p.read(); open == 0 {
			return p.between(first, t)
		}
	}
}
