package lex

import (
	"iter"

	"glyph/api"
	"glyph/array"
	"glyph/rat"
)

// tokens yields those of a line one by one, an End the last one; or, beside an error, a token that has the place of what is none: then it ends.
func tokens(line []rune) iter.Seq2[Token, api.Errno] {
	return func(yield func(Token, api.Errno) bool) {
		at := passed(line, 0)
		for at < len(line) {
			t, end, e := next(line, at)
			if e != api.OK {
				yield(Token{At: at}, e)
				return
			}
			if !yield(t, api.OK) {
				return
			}
			at = passed(line, end)
		}
		yield(Token{Kind: End, At: at}, api.OK)
	}
}

// passed is the place of the first character from a place on that is neither a blank nor in a remark.
func passed(line []rune, at int) int {
	at = run(line, at, isBlank)
	if at < len(line) && line[at] == '⍝' {
		return len(line)
	}
	return at
}

// run is the place where a run of characters of one sort, from a place on, ends.
func run(line []rune, at int, is func(rune) bool) int {
	for at < len(line) && is(line[at]) {
		at++
	}
	return at
}

// next is the token at a place, where there is a character, and the place where it ends.
func next(line []rune, at int) (Token, int, api.Errno) {
	switch c := line[at]; {
	case c == '¯' || isDigit(c):
		return numberAt(line, at)
	case c == '\'':
		return textAt(line, at)
	case beginsName(c):
		return nameAt(line, at)
	case c == '⎕':
		end := run(line, at+1, isLetter)
		return piece(Quad, line, at, end), end, api.OK
	case IsPrimitive(c):
		return piece(Glyph, line, at, at+1), at + 1, api.OK
	case isAmong(signs, c):
		return piece(Sign, line, at, at+1), at + 1, api.OK
	}
	return Token{}, 0, api.ErrText
}

// piece is the token that stands from one place to another.
func piece(kind Kind, line []rune, at, end int) Token {
	return Token{Kind: kind, Text: string(line[at:end]), At: at}
}

func numberAt(line []rune, at int) (Token, int, api.Errno) {
	end := run(line, at+1, inNumber)
	t := piece(Number, line, at, end)
	r, e := rat.Parse(t.Text)
	if e != api.OK {
		return Token{}, 0, e
	}
	t.Array = array.Rat(r)
	return t, end, api.OK
}

func textAt(line []rune, at int) (Token, int, api.Errno) {
	var content []rune
	for i := at + 1; i < len(line); i++ {
		if line[i] == '\'' {
			if i+1 == len(line) || line[i+1] != '\'' {
				t := piece(Text, line, at, i+1)
				t.Array = literal(content)
				return t, i + 1, api.OK
			}
			// Of a quote that is written twice the second one is what is meant.
			i++
		}
		content = append(content, line[i])
	}
	return Token{}, 0, api.ErrText
}

// literal is what characters in quotes are.
func literal(content []rune) api.Array {
	if len(content) == 1 {
		return array.Char(content[0])
	}
	return array.Text(string(content))
}

func nameAt(line []rune, at int) (Token, int, api.Errno) {
	end := run(line, at, inName)
	if end-at > api.MaxName {
		return Token{}, 0, api.ErrName
	}
	return piece(Name, line, at, end), end, api.OK
}

func isBlank(c rune) bool {
	return c == ' ' || c == '\t'
}

func isDigit(c rune) bool {
	return '0' <= c && c <= '9'
}

func isLetter(c rune) bool {
	return 'A' <= c && c <= 'Z' || 'a' <= c && c <= 'z'
}

// inNumber tells whether a character may stand in a number behind its first one.
func inNumber(c rune) bool {
	return isDigit(c) || c == '.' || c == 'r'
}

// beginsName tells whether a name may begin with a character.
func beginsName(c rune) bool {
	return isLetter(c) || c == '_' || c == '∆'
}

// inName tells whether a character may stand in a name behind its first one.
func inName(c rune) bool {
	return beginsName(c) || isDigit(c)
}
