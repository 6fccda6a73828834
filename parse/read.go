package parse

import (
	"glyph/api"
	"glyph/lex"
)

// reader goes through the tokens of a line, of which the last one is an End.
type reader struct {
	characters []rune
	tokens     []lex.Token
	at         int
}

// token is that which is to be read next.
func (r *reader) token() lex.Token {
	return r.tokens[r.at]
}

// is tells whether the next token is a sign or glyph. (A Text has its quotes, a Name its letters: their texts are like none.)
func (r *reader) is(text string) bool {
	return r.token().Text == text
}

// isEnd tells whether all tokens are read.
func (r *reader) isEnd() bool {
	return r.token().Kind == lex.End
}

// read is the next token, which is passed. Behind the End there is nothing to be passed.
func (r *reader) read() lex.Token {
	t := r.token()
	if !r.isEnd() {
		r.at++
	}
	return t
}

// passed tells whether the next token is a sign or glyph: then it is passed.
func (r *reader) passed(text string) bool {
	if !r.is(text) {
		return false
	}
	r.read()
	return true
}

// need passes a sign or glyph that must stand here.
func (r *reader) need(text string) lex.Token {
	if !r.is(text) {
		r.refuse()
	}
	return r.read()
}

// refuse gives up at the next token, which may not stand here.
func (r *reader) refuse() {
	giveUp(api.Syntax, r.token().At)
}

// between is the line's text from a token to another one, which has one character.
func (r *reader) between(first, last lex.Token) string {
	return string(r.characters[first.At : last.At+1])
}

// refusal is what a statement that is none is given up by.
type refusal struct {
	errno api.Errno
	at    int
}

func giveUp(e api.Errno, at int) {
	panic(refusal{e, at})
}
