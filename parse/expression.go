package parse

import "glyph/api"

// part is a part of an expression: a function (fn), a strand (tree), or, without both, a ←.
type part struct {
	fn   []api.Func
	tree []api.Tree
	at   int
}

// isArrow tells whether a part is a ←.
func (x part) isArrow() bool {
	return len(x.fn) == 0 && len(x.tree) == 0
}

// expression is what stands up to a token that ends one.
func (p *parser) expression() api.Tree {
	l := p.parts()
	if len(l) == 0 {
		p.refuse()
	}
	end := l[len(l)-1]
	switch {
	case len(end.fn) > 0:
		return assignedFunction(l)
	case end.isArrow():
		giveUp(api.Syntax, end.at)
	}
	return fromTheRight(l)
}

// parts are those of an expression, from the left.
func (p *parser) parts() []part {
	var l []part
	for {
		at := p.token().At
		switch {
		case p.role() == beginsAtom:
			l = append(l, part{tree: []api.Tree{p.strand()}, at: at})
		case p.role() == beginsFunction:
			l = append(l, part{fn: []api.Func{p.function()}, at: at})
		case p.passed("←"):
			l = append(l, part{at: at})
		case p.endsExpression():
			return l
		default:
			p.refuse()
		}
	}
}

// endsExpression tells whether the next token may stand behind an expression.
func (p *parser) endsExpression() bool {
	return p.isEnd() || p.is(")") || p.is("]") || p.is(";") || p.is(":")
}

// assignedFunction is the assignment of a function, the last one of parts, to a name: else it may not stand there.
func assignedFunction(l []part) api.Tree {
	end := l[len(l)-1]
	if len(l) != 3 || !l[1].isArrow() || len(l[0].tree) == 0 || l[0].tree[0].Kind != api.Name {
		giveUp(api.Syntax, end.at)
	}
	return api.Tree{Kind: api.Assign, Text: l[0].tree[0].Text, Fn: end.fn, At: l[1].at}
}

// fromTheRight is the tree of parts of which the last one is a strand.
func fromTheRight(l []part) api.Tree {
	so, ahead := l[len(l)-1].tree[0], l[:len(l)-1]
	for len(ahead) > 0 {
		by := ahead[len(ahead)-1]
		ahead = ahead[:len(ahead)-1]
		var left []api.Tree
		if len(ahead) > 0 {
			left = ahead[len(ahead)-1].tree
		}
		if by.isArrow() {
			so = assigned(left, by.at, so)
		} else {
			so = applied(by.fn, left, so)
		}
		ahead = ahead[:len(ahead)-len(left)]
	}
	return so
}

// assigned is the assignment of what there is so far to a name, or to places of one, that stands ahead of a ←.
func assigned(left []api.Tree, at int, so api.Tree) api.Tree {
	if len(left) > 0 {
		switch to := left[0]; {
		case to.Kind == api.Name:
			return api.Tree{Kind: api.Assign, Text: to.Text, Parts: []api.Tree{so}, At: at}
		case to.Kind == api.Indexed && to.Parts[0].Kind == api.Name:
			parts := append([]api.Tree{so}, to.Parts[1:]...)
			return api.Tree{Kind: api.AssignAt, Text: to.Parts[0].Text, Parts: parts, At: at}
		}
	}
	giveUp(api.Syntax, at)
	return api.Tree{}
}

// applied is a function of what there is so far, and of the strand ahead of it, if there is one.
func applied(f []api.Func, left []api.Tree, so api.Tree) api.Tree {
	if len(left) == 0 {
		return api.Tree{Kind: api.Monadic, Fn: f, Parts: []api.Tree{so}, At: f[0].At}
	}
	return api.Tree{Kind: api.Dyadic, Fn: f, Parts: []api.Tree{left[0], so}, At: f[0].At}
}
