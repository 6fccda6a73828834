package machine

import (
	"slices"

	"glyph/api"
	"glyph/define"
	"glyph/lex"
	"glyph/parse"
)

// mostReadings is how many parts a line remembers: lines of functions come again and again, while texts that are executed may be new each time.
const mostReadings = 1024

// reading is a part as it was read: its names, those of them that were functions then, and its tree, or the error and its place.
type reading struct {
	names []string
	known []parse.Known
	tree  api.Tree
	errno api.Errno
	at    int
}

// read is the tree of a part, or the error and its place, by the functions that there are now. Of these just those that stand in it play a part.
func (w *work) read(part string) (api.Tree, api.Errno, int) {
	r, ok := w.readings[part]
	if !ok {
		r.names = namesIn(part)
	}
	known := w.known(r.names)
	if !ok || !slices.Equal(r.known, known) {
		r.known = known
		r.tree, r.errno, r.at = parse.Statement(part, known...)
		w.remember(part, r)
	}
	return r.tree, r.errno, r.at
}

func (w *work) remember(part string, r reading) {
	if len(w.readings) >= mostReadings {
		clear(w.readings)
	}
	w.readings[part] = r
}

// namesIn are the names that stand in a part, each once, rising.
func namesIn(part string) []string {
	tokens, _, _ := lex.All(part)
	var out []string
	for _, t := range tokens {
		if t.Kind == lex.Name {
			out = append(out, t.Text)
		}
	}
	slices.Sort(out)
	return slices.Compact(out)
}

// known are those of some names that are functions now.
func (w *work) known(l []string) []parse.Known {
	var out []parse.Known
	for _, name := range l {
		if w.table.Class(name) == api.Function {
			b, _ := w.table.Get(name)
			out = append(out, parse.Known{Name: name, Niladic: define.Niladic(b.Fn)})
		}
	}
	return out
}
