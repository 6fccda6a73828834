package oper

import (
	"strings"
	"unicode/utf8"

	"glyph/api"
	"glyph/array"
	"glyph/lex"
	"glyph/scalar"
	"glyph/show"
)

// Glyphs that are operators: those that are no function besides, those that make something of one function, and of them those that go along an axis.
const (
	noFunctions = "¨∘.⍨"
	ofOnePart   = `/⌿\⍀¨⍨`
	alongAxis   = `/⌿\⍀`
	inner       = "."
	outer       = "∘."
)

// isRight tells whether a function has at most so many levels, and each of them may be.
func isRight(f api.Func, levels int) bool {
	if levels == 0 || !isFormed(f) {
		return false
	}
	for _, part := range f.Parts {
		if !isRight(part, levels-1) {
			return false
		}
	}
	return true
}

// isFormed tells whether a function is such as its kind must be, its parts not looked at.
func isFormed(f api.Func) bool {
	parts, axes := 0, 0
	switch f.Kind {
	case api.Prim:
		if !isOneOf(lex.Primitives(), f.Text) || isOneOf(noFunctions, f.Text) {
			return false
		}
	case api.User, api.Dfn:
	case api.Op1:
		if !isOneOf(ofOnePart, f.Text) {
			return false
		}
		parts = 1
	case api.Op2:
		if f.Text != inner && f.Text != outer {
			return false
		}
		parts = partsOf(f.Text)
	case api.AxisOf:
		parts, axes = 1, 1
	default:
		return false
	}
	return len(f.Parts) == parts && len(f.Where) == axes
}

// partsOf is how many parts an inner or an outer product has.
func partsOf(operator string) int {
	if operator == outer {
		return 1
	}
	return 2
}

// isOneOf tells whether a text is just one of some characters.
func isOneOf(characters, text string) bool {
	c, size := utf8.DecodeRuneInString(text)
	return size == len(text) && strings.ContainsRune(characters, c)
}

// glyphOf is the glyph of a primitive.
func glyphOf(f api.Func) rune {
	glyph, _ := utf8.DecodeRuneInString(f.Text)
	return glyph
}

// isScalar tells whether a right function is a scalar one.
func isScalar(f api.Func) bool {
	return f.Kind == api.Prim && isOneOf(scalar.Glyphs(), f.Text)
}

// haveAxes tells whether all axes of a right function that are constants are right arrays.
func haveAxes(f api.Func) bool {
	for _, where := range f.Where {
		if where.Kind == api.Const && !array.Right(where.Array) {
			return false
		}
	}
	for _, part := range f.Parts {
		if !haveAxes(part) {
			return false
		}
	}
	return true
}

// textOf is the text of a right function.
func textOf(f api.Func) string {
	switch f.Kind {
	case api.Op1:
		return textOf(f.Parts[0]) + f.Text
	case api.Op2:
		if f.Text == outer {
			return f.Text + textOf(f.Parts[0])
		}
		return textOf(f.Parts[0]) + f.Text + textOf(f.Parts[1])
	case api.AxisOf:
		return textOf(f.Parts[0]) + "[" + textOfAxis(f.Where[0]) + "]"
	}
	return f.Text
}

// textOfAxis is the text of an axis that is told; of another one nothing is known here.
func textOfAxis(where api.Tree) string {
	if where.Kind != api.Const {
		return ""
	}
	text, _ := show.Literal(where.Array)
	return text
}
