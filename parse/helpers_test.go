package parse_test

import (
	"strings"
	"testing"

	"glyph/api"
	"glyph/array"
	"glyph/parse"
)

// dice is a row of numbers that is the same at every run.
type dice uint64

func (d *dice) next(n int) int {
	*d ^= *d << 13
	*d ^= *d >> 7
	*d ^= *d << 17
	return int(uint64(*d) >> 1 % uint64(n))
}

// known are the functions of most tests: F, G and FOO have arguments, N and NIL none.
func known() []parse.Known {
	return []parse.Known{{Name: "F"}, {Name: "N", Niladic: true}, {Name: "G"}, {Name: "FOO"}, {Name: "NIL", Niladic: true}}
}

// Trees and functions of the tests are written short, each with its place.

func con(at int, a api.Array) api.Tree {
	return api.Tree{Kind: api.Const, Array: a, At: at}
}

func whole(at, n int) api.Tree {
	return con(at, array.Int(n))
}

func name(at int, text string) api.Tree {
	return api.Tree{Kind: api.Name, Text: text, At: at}
}

func niladic(at int, text string) api.Tree {
	return api.Tree{Kind: api.Niladic, Text: text, At: at}
}

func strand(parts ...api.Tree) api.Tree {
	return api.Tree{Kind: api.Strand, Parts: parts, At: parts[0].At}
}

func monadic(f api.Func, part api.Tree) api.Tree {
	return api.Tree{Kind: api.Monadic, Fn: []api.Func{f}, Parts: []api.Tree{part}, At: f.At}
}

func dyadic(left api.Tree, f api.Func, right api.Tree) api.Tree {
	return api.Tree{Kind: api.Dyadic, Fn: []api.Func{f}, Parts: []api.Tree{left, right}, At: f.At}
}

func indexed(at int, parts ...api.Tree) api.Tree {
	return api.Tree{Kind: api.Indexed, Parts: parts, At: at}
}

func assign(at int, text string, part api.Tree) api.Tree {
	return api.Tree{Kind: api.Assign, Text: text, Parts: []api.Tree{part}, At: at}
}

func assignFn(at int, text string, f api.Func) api.Tree {
	return api.Tree{Kind: api.Assign, Text: text, Fn: []api.Func{f}, At: at}
}

func assignAt(at int, text string, parts ...api.Tree) api.Tree {
	return api.Tree{Kind: api.AssignAt, Text: text, Parts: parts, At: at}
}

func branch(at int, parts ...api.Tree) api.Tree {
	return api.Tree{Kind: api.Branch, Parts: parts, At: at}
}

func guard(at int, whether, then api.Tree) api.Tree {
	return api.Tree{Kind: api.Guard, Parts: []api.Tree{whether, then}, At: at}
}

func left() api.Tree {
	return api.Tree{Kind: api.None}
}

func prim(at int, glyph string) api.Func {
	return api.Func{Kind: api.Prim, Text: glyph, At: at}
}

func user(at int, name string) api.Func {
	return api.Func{Kind: api.User, Text: name, At: at}
}

func dfn(at int, text string) api.Func {
	return api.Func{Kind: api.Dfn, Text: text, At: at}
}

func op(f api.Func, operator string) api.Func {
	return api.Func{Kind: api.Op1, Text: operator, Parts: []api.Func{f}, At: f.At}
}

func dot(f, g api.Func) api.Func {
	return api.Func{Kind: api.Op2, Text: ".", Parts: []api.Func{f, g}, At: f.At}
}

func jot(at int, f api.Func) api.Func {
	return api.Func{Kind: api.Op2, Text: "∘.", Parts: []api.Func{f}, At: at}
}

func on(f api.Func, where api.Tree) api.Func {
	return api.Func{Kind: api.AxisOf, Parts: []api.Func{f}, Where: []api.Tree{where}, At: f.At}
}

// same holds trees against each other, all of them; places, if they count.
func same(a, b api.Tree, places bool) bool {
	if a.Kind != b.Kind || a.Text != b.Text || places && a.At != b.At || len(a.Array.Items) != len(b.Array.Items) || len(a.Array.Items) > 0 && !array.Match(a.Array, b.Array) || len(a.Array.Shape) != len(b.Array.Shape) {
		return false
	}
	return sameTrees(a.Parts, b.Parts, places) && sameFuncs(a.Fn, b.Fn, places)
}

func sameTrees(a, b []api.Tree, places bool) bool {
	for k := range min(len(a), len(b)) {
		if !same(a[k], b[k], places) {
			return false
		}
	}
	return len(a) == len(b)
}

func sameFuncs(a, b []api.Func, places bool) bool {
	for k := range min(len(a), len(b)) {
		f, g := a[k], b[k]
		if f.Kind != g.Kind || f.Text != g.Text || places && f.At != g.At || !sameFuncs(f.Parts, g.Parts, places) || !sameTrees(f.Where, g.Where, places) {
			return false
		}
	}
	return len(a) == len(b)
}

// makes asks for the tree of a line.
func makes(t *testing.T, line string, want api.Tree) {
	t.Helper()
	got, e, at := parse.Statement(line, known()...)
	if e != api.OK || at != 0 {
		t.Error(line, "has the error", e, "at", at)
		return
	}
	if !same(got, want, true) {
		t.Errorf("%s is\n%+v, want\n%+v", line, got, want)
	}
}

// fails asks for the error of a line, and its place.
func fails(t *testing.T, line string, want api.Errno, place int) {
	t.Helper()
	got, e, at := parse.Statement(line, known()...)
	if e != want || at != place {
		t.Errorf("%q has the error %d at %d, want %d at %d", line, e, at, want, place)
	}
	if !same(got, api.Tree{}, true) {
		t.Errorf("%q has an error, and %+v", line, got)
	}
}

// places are where all elements of all lists of a tree lie, those of the spare room too.
func places(t api.Tree) []any {
	out := append(elements(t.Array.Shape), elements(t.Array.Items)...)
	for _, i := range t.Array.Items {
		out = append(append(out, elements(i.Num.Num)...), elements(i.Num.Den)...)
	}
	out = append(append(out, elements(t.Fn)...), elements(t.Parts)...)
	for _, f := range t.Fn {
		out = append(out, placesOf(f)...)
	}
	for _, part := range t.Parts {
		out = append(out, places(part)...)
	}
	return out
}

func placesOf(f api.Func) []any {
	out := append(elements(f.Parts), elements(f.Where)...)
	for _, part := range f.Parts {
		out = append(out, placesOf(part)...)
	}
	for _, where := range f.Where {
		out = append(out, places(where)...)
	}
	return out
}

func elements[T any](l []T) []any {
	var out []any
	l = l[:cap(l)]
	for i := range l {
		out = append(out, &l[i])
	}
	return out
}

// apart fails if two lists of trees lie in one another.
func apart(t *testing.T, what string, trees ...api.Tree) {
	t.Helper()
	seen := map[any]bool{}
	for _, tree := range trees {
		for _, p := range places(tree) {
			if seen[p] {
				t.Fatal(what, "has a list that lies in another one")
			}
			seen[p] = true
		}
	}
}

// writer writes statements whose trees it knows, token by token.
type writer struct {
	d      *dice
	tokens []string
	line   []rune
	wide   bool // blanks between all tokens
	seldom int  // how many of the things that go down are left
}

// put writes a token, behind blanks where it needs them: it tells its place.
func (w *writer) put(token string) int {
	if len(w.line) > 0 && (w.wide || glues(w.line[len(w.line)-1]) && glues([]rune(token)[0])) {
		w.line = append(w.line, []rune(strings.Repeat(" ", 1+w.d.next(2)))...)
	}
	at := len(w.line)
	w.line = append(w.line, []rune(token)...)
	w.tokens = append(w.tokens, token)
	return at
}

// glues tells whether two such characters side by side may be one token.
func glues(c rune) bool {
	return strings.ContainsRune("0123456789¯._∆'⎕", c) || 'a' <= c && c <= 'z' || 'A' <= c && c <= 'Z'
}

func (w *writer) choice(l ...string) string {
	return l[w.d.next(len(l))]
}

// deeper tells whether to go down once more.
func (w *writer) deeper(of int) bool {
	if w.seldom == 0 || w.d.next(of) > 0 {
		return false
	}
	w.seldom--
	return true
}

func (w *writer) statement() api.Tree {
	switch w.d.next(8) {
	case 0:
		return branch(w.put("→"))
	case 1:
		at := w.put("→")
		return branch(at, w.expression())
	case 2:
		whether := w.expression()
		at := w.put(":")
		return guard(at, whether, w.expression())
	case 3:
		text := w.choice("A", "FN", "⍺", "⎕IO")
		w.put(text)
		at := w.put("←")
		return assignFn(at, text, w.function(false))
	}
	return w.expression()
}

// expression writes parts from the left, and makes a tree of them from the right.
func (w *writer) expression() api.Tree {
	var make []func(so api.Tree) api.Tree
	behindFunction := false
	for range w.d.next(4) {
		switch w.d.next(4) {
		case 0:
			make = append(make, w.target())
			behindFunction = false
		case 1:
			f := w.function(behindFunction)
			make = append(make, func(so api.Tree) api.Tree { return monadic(f, so) })
			behindFunction = true
		default:
			l := w.strand()
			f := w.function(false)
			make = append(make, func(so api.Tree) api.Tree { return dyadic(l, f, so) })
			behindFunction = true
		}
	}
	so := w.strand()
	for k := len(make) - 1; k >= 0; k-- {
		so = make[k](so)
	}
	return so
}

// target writes a name, or places of one, and an arrow.
func (w *writer) target() func(so api.Tree) api.Tree {
	text := w.choice("A", "B", "⍵", "⎕", "⎕CT", "_x1")
	w.put(text)
	if !w.deeper(3) {
		at := w.put("←")
		return func(so api.Tree) api.Tree { return assign(at, text, so) }
	}
	_, l := w.places()
	at := w.put("←")
	return func(so api.Tree) api.Tree { return assignAt(at, text, append([]api.Tree{so}, l...)...) }
}

// places writes a bracket with places: its own place, and their trees.
func (w *writer) places() (int, []api.Tree) {
	at := w.put("[")
	var l []api.Tree
	for k := range 1 + w.d.next(3) {
		if k > 0 {
			w.put(";")
		}
		if w.d.next(3) == 0 {
			l = append(l, left())
		} else {
			l = append(l, w.expression())
		}
	}
	w.put("]")
	return at, l
}

func (w *writer) strand() api.Tree {
	l := []api.Tree{w.atom()}
	for w.d.next(4) == 0 {
		l = append(l, w.atom())
	}
	if len(l) == 1 {
		return l[0]
	}
	return strand(l...)
}

func (w *writer) atom() api.Tree {
	t := w.bareAtom()
	for w.deeper(6) {
		at, l := w.places()
		t = indexed(at, append([]api.Tree{t}, l...)...)
	}
	return t
}

func (w *writer) bareAtom() api.Tree {
	if w.deeper(4) {
		w.put("(")
		t := w.expression()
		w.put(")")
		return t
	}
	switch w.d.next(4) {
	case 0:
		n := w.d.next(100)
		return whole(w.put([]string{"", "0"}[w.d.next(2)]+digits(n)), n)
	case 1:
		content := w.choice("ab", "", "it's", "{ {", "⍝ a", "([;")
		return con(w.put("'"+strings.ReplaceAll(content, "'", "''")+"'"), array.Text(content))
	case 2:
		text := w.choice("N", "NIL")
		return niladic(w.put(text), text)
	}
	text := w.choice("A", "B1", "⍺", "⍵", "⎕", "⎕IO", "⎕PP", "f", "∆_")
	return name(w.put(text), text)
}

func digits(n int) string {
	if n < 10 {
		return string(rune('0' + n))
	}
	return digits(n/10) + digits(n%10)
}

// function writes one; behind another function it begins with no glyph that would be its operator.
func (w *writer) function(behind bool) api.Func {
	var f api.Func
	if w.d.next(6) == 0 {
		at := w.put("∘")
		w.put(".")
		f = jot(at, w.primary(false))
	} else {
		f = w.primary(behind)
	}
	for w.d.next(3) == 0 {
		switch w.d.next(3) {
		case 0:
			w.put(".")
			f = dot(f, w.primary(false))
		case 1:
			if w.deeper(1) {
				w.put("[")
				f = on(f, w.expression())
				w.put("]")
			}
		default:
			operator := w.choice("/", "⌿", `\`, "⍀", "¨", "⍨")
			w.put(operator)
			f = op(f, operator)
		}
	}
	return f
}

func (w *writer) primary(behind bool) api.Func {
	switch w.d.next(5) {
	case 0:
		text := w.choice("F", "FOO", "G", "∇", "⎕FX", "⎕EA")
		return user(w.put(text), text)
	case 1:
		text := w.choice("{⍵}", "{}", "{ ⍵ + {'}'} 1 }", "{⍺ ⋄ (]:}", "{'{'}")
		return dfn(w.put(text), text)
	}
	text := w.choice("+", "-", "⍴", "⍎", "⊂", "≢", ",", "|", "/", `\`, "⌿", "⍀")
	if behind && strings.Contains(`/\⌿⍀`, text) {
		text = "×"
	}
	return prim(w.put(text), text)
}
