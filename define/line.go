package define

import (
	"strings"

	"glyph/api"
	"glyph/lex"
)

const blanks = " \t"

// labelled is a line's label, empty if it has none, and its body.
func labelled(line string) (string, string) {
	// All up to the first colon is a name and that colon, unless there is no label: a colon in a text or a remark is no token of it.
	end := strings.IndexByte(line, ':') + 1
	tokens, _, _ := lex.All(line[:end])
	if len(tokens) == 3 && tokens[0].Kind == lex.Name && tokens[1].Text == ":" {
		return tokens[0].Text, strings.Trim(line[end:], blanks)
	}
	return "", strings.Trim(line, blanks)
}

// isOfTokens tells whether lex takes a line.
func isOfTokens(line string) bool {
	_, e, _ := lex.All(line)
	return e == api.OK
}

// between is what stands between the braces of a dfn; false: the text is none.
func between(text string) (string, bool) {
	tokens, e, _ := lex.All(text)
	if e != api.OK || tokens[0].Text != "{" {
		return "", false
	}
	last := len(tokens) - 2 // behind it is the End
	if fellow(tokens) != last {
		return "", false
	}
	// All has taken the text: it has characters alone.
	characters, _, _ := lex.Runes(text)
	return string(characters[tokens[0].At+1 : tokens[last].At]), true
}

// fellow is where, among tokens that begin with a brace, that brace is closed; below 0, if it is not.
func fellow(l []lex.Token) int {
	open := 0
	for i, t := range l {
		switch t.Text {
		case "{":
			open++
		case "}":
			open--
		}
		if open == 0 {
			return i
		}
	}
	return -1
}
