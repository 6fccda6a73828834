package machine_test

import (
	"slices"
	"strings"

	"glyph/api"
	"glyph/array"
	"glyph/define"
	"glyph/lex"
	"glyph/machine"
	"glyph/names"
	"glyph/oper"
	"glyph/parse"
	"glyph/pick"
	"glyph/rat"
)

// modelCaller keeps what went wrong in what it called, as oper hands on no more than a number.
type modelCaller struct {
	*model
	went   *fault
	silent bool
}

func (c *modelCaller) Env() api.Env {
	return c.env
}

func (c *modelCaller) Axis(f api.Func) (api.Array, api.Errno) {
	a, went := c.must(f.Where[0])
	if went != nil {
		c.went = went
		return api.Array{}, api.Axis
	}
	return a, api.OK
}

func (c *modelCaller) Call(f api.Func, left []api.Array, right api.Array) (api.Array, api.Errno) {
	var v []api.Array
	var went *fault
	switch {
	case f.Kind == api.Prim && len(left) > 0:
		return api.Array{}, api.Syntax
	case f.Kind == api.Prim:
		v, went = c.text(right)
	case f.Kind == api.Dfn:
		fn, e := define.Dfn(f.Text)
		if e != api.OK {
			return api.Array{}, api.Syntax
		}
		v, went = c.call(fn, left, []api.Array{right})
	default:
		v, went = c.user(f.Text, left, []api.Array{right})
	}
	switch {
	case went != nil && len(went.group) == 0 && !went.leave && f.Kind != api.Prim && f.Text != "⎕EA":
		return api.Array{}, went.errno // of the call itself: the place is that of the whole function
	case went != nil:
		went.at = f.At
		c.went = went
		return api.Array{}, api.Value
	case len(v) == 0:
		c.silent = true
		return api.Array{}, api.Value
	}
	return v[0], api.OK
}

func (m *model) apply(f api.Func, left []api.Array, right api.Array) ([]api.Array, *fault) {
	if !oper.Right(f) {
		return nil, wrong(api.Syntax, f.At)
	}
	c := &modelCaller{model: m}
	a, e := oper.Apply(c, f, left, right)
	switch {
	case c.went != nil:
		return nil, c.went
	case c.silent && (f.Kind == api.User || f.Kind == api.Dfn):
		return nil, nil
	}
	return one(a, e, f.At)
}

// text executes one.
func (m *model) text(a api.Array) ([]api.Array, *fault) {
	s, ok := array.ToText(a)
	switch {
	case len(a.Shape) > 1:
		return nil, wrong(api.Rank, 0)
	case !ok:
		return nil, wrong(api.Domain, 0)
	}
	parts, e, _ := lex.Split(s)
	if e != api.OK {
		return nil, wrong(asSyntax(e), 0)
	}
	var v []api.Array
	for _, part := range parts {
		t, f := m.statement(part)
		if f == nil {
			v, f = m.value(t)
		}
		if f != nil {
			return nil, f
		}
	}
	if len(v) == 0 {
		return nil, wrong(api.Value, 0)
	}
	return v, nil
}

func (m *model) user(name string, left, right []api.Array) ([]api.Array, *fault) {
	b, _ := m.table.Get(name)
	f := b.Fn
	switch {
	case name == "∇":
		if len(m.going) == 0 || !m.going[len(m.going)-1].Braces {
			return nil, wrong(api.Syntax, 0)
		}
		return m.call(m.going[len(m.going)-1], left, right)
	case parse.IsSystem(name):
		return m.system(name, left, right[0])
	case b.Class != api.Function:
		return nil, wrong(api.Syntax, 0)
	case !f.Braces && (len(left) > 0 && f.Left == "" || len(right) == 0 && f.Right != "" || len(right) > 0 && f.Right == ""):
		return nil, wrong(api.Syntax, 0)
	}
	return m.call(f, left, right)
}

func (m *model) call(f api.Fn, left, right []api.Array) ([]api.Array, *fault) {
	locals := define.Locals(f)
	l, r := f.Left, f.Right
	if f.Braces {
		l, r = "⍺", "⍵"
		tokens, _, _ := lex.All(f.Lines[0])
		for i, t := range tokens {
			if t.Text == "←" && i > 0 && tokens[i-1].Kind == lex.Name && !slices.Contains(locals, tokens[i-1].Text) {
				locals = append(locals, tokens[i-1].Text)
			}
		}
	}
	if m.table.Push(locals...) != api.OK {
		return nil, wrong(api.Limit, 0)
	}
	m.going = append(m.going, f)
	for _, a := range left {
		m.table.SetVar(l, a)
	}
	for _, a := range right {
		m.table.SetVar(r, a)
	}
	for i, label := range f.Labels {
		m.table.SetLabel(label, f.At[i])
	}
	var v []api.Array
	var went *fault
	if f.Braces {
		v, went = m.dfn(f)
	} else if went = m.tradfn(f); went == nil {
		if b, _ := m.table.Get(f.Result); b.Class == api.Variable {
			v = []api.Array{b.Array}
		}
	}
	if went == nil {
		m.pop(1)
	}
	return v, went
}

// out tells that a fault comes out of a call, at a line or part.
func out(f api.Fn, line int, part string, went *fault) *fault {
	name := f.Name
	if name == "" {
		name = "{}"
	}
	went.group = append(went.group, machine.Where{Name: name, Line: line, Text: part, At: went.at})
	return went
}

func (m *model) tradfn(f api.Fn) *fault {
	for line := 1; line >= 1 && line < len(f.Lines); {
		body, _ := define.Body(f, line)
		parts, _, _ := lex.Split(body)
		next := line + 1
		for _, part := range parts {
			to, went := m.partOfTradfn(part)
			if went != nil {
				return out(f, line, part, went)
			}
			if len(to) > 0 {
				next = to[0]
				break
			}
		}
		line = next
	}
	return nil
}

// partOfTradfn is the line to which it goes, if it goes to one.
func (m *model) partOfTradfn(part string) ([]int, *fault) {
	t, went := m.statement(part)
	switch {
	case went != nil:
		return nil, went
	case t.Kind != api.Branch:
		return nil, m.displayed(t)
	case len(t.Parts) == 0:
		return nil, &fault{leave: true}
	}
	a, went := m.must(t.Parts[0])
	items := array.Items(a)
	switch {
	case went != nil:
		return nil, went
	case len(items) == 0:
		return nil, nil
	case items[0].Kind != api.Number || !rat.IsInt(items[0].Num):
		return nil, wrong(api.Domain, t.At)
	}
	n, ok := rat.ToInt(items[0].Num)
	if !ok {
		n = -1
	}
	return []int{n}, nil
}

func (m *model) dfn(f api.Fn) ([]api.Array, *fault) {
	parts, _ := define.Parts(f)
	for i, part := range parts {
		t, went := m.statement(part)
		var v []api.Array
		over := false
		if went == nil {
			v, over, went = m.partOfDfn(t)
		}
		if went != nil {
			return nil, out(f, i+1, part, went)
		}
		if over {
			return v, nil
		}
	}
	return nil, nil
}

func (m *model) partOfDfn(t api.Tree) ([]api.Array, bool, *fault) {
	switch {
	case t.Kind == api.None, t.Kind == api.Assign && t.Text == "⍺" && m.table.Class("⍺") != api.Free:
		return nil, false, nil
	case t.Kind == api.Assign || t.Kind == api.AssignAt:
		_, f := m.value(t)
		return nil, false, f
	case t.Kind != api.Guard:
		v, f := m.value(t)
		return v, true, f
	}
	a, f := m.must(t.Parts[0])
	n, ok := array.ToInt(a)
	switch {
	case f != nil:
		return nil, false, f
	case len(array.Items(a)) != 1:
		return nil, false, wrong(api.Length, t.At)
	case !ok || n != 0 && n != 1:
		return nil, false, wrong(api.Domain, t.At)
	case n == 0:
		return nil, false, nil
	}
	a, f = m.must(t.Parts[1])
	return []api.Array{a}, true, f
}

func (m *model) assign(t api.Tree) ([]api.Array, *fault) {
	if len(t.Fn) > 0 {
		fn, e := define.Dfn(t.Fn[0].Text)
		if e != api.OK || t.Fn[0].Kind != api.Dfn || parse.IsVariable(t.Text) {
			return nil, wrong(api.Syntax, t.At)
		}
		fn.Name = t.Text
		if m.table.SetFn(fn) != api.OK {
			return nil, wrong(api.Syntax, t.At)
		}
		return nil, nil
	}
	a, f := m.must(t.Parts[0])
	if f != nil {
		return nil, f
	}
	n, ok := array.ToInt(a)
	switch {
	case t.Text == "⎕":
		f = m.display(a, t.At)
	case t.Text == "⎕IO" && ok && (n == 0 || n == 1):
		m.env.IO = n
	case t.Text == "⎕IO":
		f = wrong(api.Domain, t.At)
	default:
		if m.table.SetVar(t.Text, a) != api.OK {
			f = wrong(api.Syntax, t.At)
		}
	}
	return []api.Array{a}, f
}

func (m *model) assignAt(t api.Tree) ([]api.Array, *fault) {
	a, f := m.must(t.Parts[0])
	if f != nil {
		return nil, f
	}
	places, f := m.values(t.Parts[1:])
	if f != nil {
		return nil, f
	}
	old, e := m.named(t.Text)
	switch {
	case parse.IsVariable(t.Text):
		return nil, wrong(api.Syntax, t.At)
	case e != api.OK:
		return nil, wrong(e, t.At)
	}
	put, e := pick.PutAt(m.env, old, a, places...)
	switch {
	case e != api.OK:
		return nil, wrong(e, t.At)
	case m.table.SetVar(t.Text, put) != api.OK:
		return nil, wrong(api.Syntax, t.At)
	}
	return []api.Array{a}, nil
}

func (m *model) isCalled(name string) bool {
	for _, f := range m.going {
		if f.Name == name {
			return true
		}
	}
	for _, w := range slices.Concat(m.groups...) {
		if w.Name == name {
			return true
		}
	}
	return false
}

func (m *model) define(lines []string) api.Errno {
	f, e, _ := define.Make(lines...)
	switch {
	case e != api.OK:
		return e
	case m.isCalled(f.Name) || m.table.SetFn(f) != api.OK:
		return api.Domain
	}
	return api.OK
}

// system are the system functions, of arguments as the author of the tests writes them.
func (m *model) system(name string, left []api.Array, right api.Array) ([]api.Array, *fault) {
	if (len(left) > 0) != (name == "⎕EA") {
		return nil, wrong(api.Syntax, 0)
	}
	text, ok := array.ToText(right)
	if rows, is := rowsOf(right); is && (name == "⎕NC" || name == "⎕EX") {
		return m.ofRows(name, rows)
	}
	switch name {
	case "⎕EA":
		return m.trap(left[0], right)
	case "⎕ES":
		n, _ := array.ToInt(right)
		return nil, wrong(api.Errno(n), 0)
	case "⎕FX":
		f, _, _ := define.FromArray(right)
		e := m.define(f.Lines)
		return one(array.Text(f.Name), e, 0)
	}
	switch {
	case len(right.Shape) > 2 || len(right.Shape) == 2 && name == "⎕CR":
		return nil, wrong(api.Rank, 0)
	case !ok:
		return nil, wrong(api.Domain, 0)
	case name == "⎕CR" && m.table.Class(text) == api.Function:
		b, _ := m.table.Get(text)
		a, e := define.Canon(b.Fn)
		return one(a, e, 0)
	case name == "⎕CR":
		a, e := array.Make([]int{0, 0}, array.Char(' ').Items...)
		return one(a, e, 0)
	case name == "⎕NC" && !names.IsName(text):
		return one(array.Int(4), api.OK, 0)
	case name == "⎕NC":
		return one(array.Int(int(m.table.Class(text))), api.OK, 0)
	case m.table.Class(text) == api.Function && m.isCalled(text) || strings.Trim(text, "AD") != "":
		return one(array.Int(0), api.OK, 0)
	}
	m.table.Erase(text)
	return one(array.Int(1), api.OK, 0)
}

// rowsOf are those of a matrix of characters, as arrays; false: it is none.
func rowsOf(a api.Array) ([]api.Array, bool) {
	if len(a.Shape) != 2 {
		return nil, false
	}
	var out []api.Array
	for i := range a.Shape[0] {
		var row strings.Builder
		for j := range a.Shape[1] {
			if a.Items[i*a.Shape[1]+j].Kind != api.Char {
				return nil, false
			}
			row.WriteRune(a.Items[i*a.Shape[1]+j].Char)
		}
		out = append(out, array.Text(strings.TrimRight(row.String(), " ")))
	}
	return out, true
}

func (m *model) ofRows(name string, rows []api.Array) ([]api.Array, *fault) {
	var l []int
	for _, row := range rows {
		v, _ := m.system(name, nil, row)
		n, _ := array.ToInt(v[0])
		l = append(l, n)
	}
	if len(l) == 1 {
		return one(array.Int(l[0]), api.OK, 0)
	}
	return one(array.Ints(l...), api.OK, 0)
}

func (m *model) trap(left, right api.Array) ([]api.Array, *fault) {
	for _, a := range []api.Array{left, right} {
		if _, ok := array.ToText(a); !ok {
			return nil, wrong(api.Domain, 0)
		}
	}
	v, f := m.text(right)
	if f == nil || f.leave || f.errno == api.Interrupt {
		return v, f
	}
	m.pop(len(f.group))
	return m.text(left)
}
