package define

import (
	"glyph/api"
	"glyph/lex"
)

// headed is what a header's tokens, an End the last one, say; false: they are no header.
func headed(l []lex.Token) (api.Fn, bool) {
	result, l := resultOf(l)
	names, l := namesOf(l)
	locals, l := localsOf(l)
	if l[0].Kind != lex.End || len(locals) > api.MaxLocals {
		return api.Fn{}, false
	}
	f := api.Fn{Result: result, Locals: locals}
	switch len(names) {
	case 1:
		f.Name = names[0]
	case 2:
		f.Name, f.Right = names[0], names[1]
	case 3:
		f.Left, f.Name, f.Right = names[0], names[1], names[2]
	default:
		return api.Fn{}, false
	}
	return f, taken{}.take(headerNames(f)...)
}

// resultOf is the name ahead of an arrow at the front of tokens, if there is one, and the tokens behind.
func resultOf(l []lex.Token) (string, []lex.Token) {
	if l[0].Kind == lex.Name && l[1].Text == "←" {
		return l[0].Text, l[2:]
	}
	return "", l
}

// namesOf are the names side by side at the front of tokens, and the tokens behind.
func namesOf(l []lex.Token) ([]string, []lex.Token) {
	var out []string
	for l[0].Kind == lex.Name {
		out, l = append(out, l[0].Text), l[1:]
	}
	return out, l
}

// localsOf are the names at the front of tokens that stand behind a semicolon each, and the tokens behind.
func localsOf(l []lex.Token) ([]string, []lex.Token) {
	var out []string
	for l[0].Text == ";" && l[1].Kind == lex.Name {
		out, l = append(out, l[1].Text), l[2:]
	}
	return out, l
}

// headerNames are all names that stand in a function's header.
func headerNames(f api.Fn) []string {
	f.Labels = nil
	return append(Locals(f), f.Name)
}

// taken is names that may not stand once more.
type taken map[string]struct{}

// take takes names; false: one of them is taken already.
func (t taken) take(names ...string) bool {
	for _, name := range names {
		if _, ok := t[name]; ok {
			return false
		}
		t[name] = struct{}{}
	}
	return true
}
