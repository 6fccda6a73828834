package lex

import "glyph/api"

// Split is a line cut at its diamonds, outside of braces and texts, without remarks.
func Split(line string) ([]string, api.Errno, int) {
	all, e, at := All(line)
	if e != api.OK {
		return nil, e, at
	}
	// All has taken the line: it has characters alone.
	runes, _, _ := Runes(line)
	var out []string
	from, open := 0, 0
	for i, t := range all {
		switch {
		case t.Kind == End || t.Text == "⋄" && open == 0:
			out = append(out, stretch(runes, all[from:i]))
			from = i + 1
		case t.Text == "{":
			open++
		case t.Text == "}" && open > 0:
			open--
		}
	}
	return out, api.OK, 0
}

// stretch is what stands in a line from the first one of some of its tokens to the last one: no remark, and no blanks at its ends.
func stretch(line []rune, l []Token) string {
	if len(l) == 0 {
		return ""
	}
	last := l[len(l)-1]
	text, _, _ := Runes(last.Text)
	return string(line[l[0].At : last.At+len(text)])
}
