package oper_test

import (
	"slices"
	"strings"
	"testing"
	"unicode/utf8"

	"glyph/api"
	"glyph/array"
	"glyph/oper"
	"glyph/pick"
	"glyph/rat"
	"glyph/scalar"
	"glyph/shape"
	"glyph/show"
)

// model applies functions as the chapter says, place by place along the axes; an error is a panic.
type model struct {
	env         api.Env
	steps, used int
}

func must(a api.Array, e api.Errno) api.Array {
	if e != api.OK {
		panic(e)
	}
	return a
}

// run is what the model makes of a function.
func (m *model) run(f api.Func, left []api.Array, right api.Array) (a api.Array, e api.Errno) {
	defer func() {
		if x := recover(); x != nil {
			a, e = api.Array{}, x.(api.Errno)
		}
	}()
	return m.apply(f, left, right), api.OK
}

func (m *model) apply(f api.Func, left []api.Array, right api.Array) api.Array {
	if m.used >= m.steps {
		panic(api.Interrupt)
	}
	m.used++
	switch f.Kind {
	case api.Prim:
		return m.prim(f, left, right)
	case api.Op1:
		return m.op1(f, left, right)
	case api.Op2:
		if len(left) == 0 {
			panic(api.Syntax)
		}
		if f.Text == "∘." {
			return m.outer(f.Parts[0], left[0], right)
		}
		return m.inner(f.Parts[0], f.Parts[1], left[0], right)
	case api.AxisOf:
		return m.axisOf(f, left, right)
	}
	panic(api.Syntax)
}

func (m *model) prim(f api.Func, left []api.Array, right api.Array) api.Array {
	g, _ := utf8.DecodeRuneInString(f.Text)
	switch {
	case g == '⍎':
	case len(left) == 1 && scalar.IsDyadic(g):
		return must(scalar.Dyadic(m.env, g, left[0], right))
	case len(left) == 1 && shape.IsDyadic(g):
		return must(shape.Dyadic(m.env, g, left[0], right))
	case len(left) == 1 && pick.IsDyadic(g):
		return must(pick.Dyadic(m.env, g, left[0], right))
	case len(left) == 1:
	case g == '⍕':
		return must(show.Format(right))
	case scalar.IsMonadic(g):
		return must(scalar.Monadic(m.env, g, right))
	case shape.IsMonadic(g):
		return must(shape.Monadic(m.env, g, right))
	case pick.IsMonadic(g):
		return must(pick.Monadic(m.env, g, right))
	}
	panic(api.Syntax)
}

func (m *model) op1(f api.Func, left []api.Array, right api.Array) api.Array {
	axis := 0
	if f.Text == "/" || f.Text == `\` {
		axis = max(len(right.Shape)-1, 0)
	}
	part := f.Parts[0]
	switch f.Text {
	case "¨":
		return m.each(part, left, right)
	case "⍨":
		if len(left) == 1 {
			return m.apply(part, with(right), left[0])
		}
		return m.apply(part, with(right), right)
	}
	return m.along(part, f.Text, axis, left, right)
}

func (m *model) along(f api.Func, operator string, axis int, left []api.Array, right api.Array) api.Array {
	if strings.Contains(`\⍀`, operator) {
		if len(left) == 1 {
			panic(api.Syntax)
		}
		return m.windows(f, axis, right, func(k int) (int, int) { return 0, k + 1 }, right.Shape)
	}
	if len(left) == 0 {
		return m.fold(f, axis, right)
	}
	items := array.Items(left[0])
	if len(items) != 1 {
		panic(api.Length)
	}
	if items[0].Kind != api.Number || !rat.IsInt(items[0].Num) || rat.Sign(items[0].Num) < 1 {
		panic(api.Domain)
	}
	if len(right.Shape) == 0 {
		right = arr([]int{1}, right.Items...)
	}
	n, ok := rat.ToInt(items[0].Num)
	if !ok || n > right.Shape[axis]+1 {
		panic(api.Length)
	}
	out := slices.Clone(right.Shape)
	out[axis] = out[axis] - n + 1
	return m.windows(f, axis, right, func(k int) (int, int) { return k, k + n }, out)
}

// windows folds, for each lane, what stands from one place to another at each place.
func (m *model) windows(f api.Func, axis int, a api.Array, window func(k int) (int, int), out []int) api.Array {
	if len(a.Shape) == 0 {
		return array.Copy(a)
	}
	if sizeOf(out) == 0 {
		return must(array.Make(out, array.Proto(a)))
	}
	items := make([]api.Item, sizeOf(out))
	across := slices.Clone(out)
	across[axis] = 1
	for lane := range sizeOf(across) {
		index := indexOf(across, lane)
		for k := range out[axis] {
			from, to := window(k)
			index[axis] = k
			items[placeOf(out, index)] = m.folded(f, a, index, axis, from, to)
		}
	}
	return must(array.Make(out, items...))
}

// folded is the items of a lane, from one place to another, folded and enclosed.
func (m *model) folded(f api.Func, a api.Array, lane []int, axis, from, to int) api.Item {
	get := func(k int) api.Array {
		index := slices.Clone(lane)
		index[axis] = k
		return array.Open(a.Items[placeOf(a.Shape, index)])
	}
	so := get(to - 1)
	for k := to - 2; k >= from; k-- {
		so = m.apply(f, with(get(k)), so)
	}
	return enclosed(so)
}

func enclosed(a api.Array) api.Item {
	return must(array.Make(nil, array.Enclose(a))).Items[0]
}

func (m *model) fold(f api.Func, axis int, a api.Array) api.Array {
	if len(a.Shape) == 0 {
		return array.Copy(a)
	}
	out := slices.Delete(slices.Clone(a.Shape), axis, axis+1)
	if a.Shape[axis] == 0 {
		return ofNone(f, out, array.Proto(a))
	}
	kept := slices.Clone(a.Shape)
	kept[axis] = 1
	folded := m.windows(f, axis, a, func(int) (int, int) { return 0, a.Shape[axis] }, kept)
	return must(array.Make(out, folded.Items...))
}

func ofNone(f api.Func, out []int, proto api.Item) api.Array {
	g, _ := utf8.DecodeRuneInString(f.Text)
	x, ok := scalar.Identity(g)
	if f.Kind != api.Prim || !ok {
		panic(api.Domain)
	}
	if slices.Contains(out, 0) {
		return must(array.Make(out, proto))
	}
	return must(array.Make(out, number(x)))
}

func (m *model) each(f api.Func, left []api.Array, right api.Array) api.Array {
	if len(left) == 0 {
		return m.items(f, right.Shape, func(i int) ([]api.Array, api.Array) { return nil, array.Open(right.Items[i]) }, nil, right)
	}
	l := left[0]
	// = of two arrays of numbers goes together as all scalar functions do, and never fails otherwise.
	whole := must(scalar.Dyadic(env(1), '=', flat(l), flat(right)))
	return m.items(f, whole.Shape, func(i int) ([]api.Array, api.Array) {
		return with(array.Open(l.Items[i%len(l.Items)])), array.Open(right.Items[i%len(right.Items)])
	}, left, right)
}

// flat is an array of the same shape, of zeros.
func flat(a api.Array) api.Array {
	return must(array.Make(a.Shape, num(0)))
}

func (m *model) outer(f api.Func, l, r api.Array) api.Array {
	return m.items(f, slices.Concat(l.Shape, r.Shape), func(i int) ([]api.Array, api.Array) {
		return with(array.Open(l.Items[i/len(r.Items)])), array.Open(r.Items[i%len(r.Items)])
	}, with(l), r)
}

func (m *model) items(f api.Func, out []int, get func(i int) ([]api.Array, api.Array), left []api.Array, right api.Array) api.Array {
	if _, e := array.Size(out); e != api.OK {
		panic(e)
	}
	if slices.Contains(out, 0) {
		var protos []api.Array
		for _, a := range left {
			protos = append(protos, array.Open(array.Proto(a)))
		}
		return must(array.Make(out, array.Enclose(m.apply(f, protos, array.Open(array.Proto(right))))))
	}
	var items []api.Item
	for i := range sizeOf(out) {
		l, r := get(i)
		items = append(items, enclosed(m.apply(f, l, r)))
	}
	return must(array.Make(out, items...))
}

func (m *model) inner(f, g api.Func, l, r api.Array) api.Array {
	var ahead, behind []int
	long, other := 1, 1
	if len(l.Shape) > 0 {
		ahead, long = l.Shape[:len(l.Shape)-1], l.Shape[len(l.Shape)-1]
	}
	if len(r.Shape) > 0 {
		behind, other = r.Shape[1:], r.Shape[0]
	}
	out := slices.Concat(ahead, behind)
	if len(out) > api.MaxRank {
		panic(api.Rank)
	}
	n := long
	if long == 1 {
		n = other
	}
	if long != other && long != 1 && other != 1 {
		panic(api.Length)
	}
	if n == 0 {
		return ofNone(f, out, num(0))
	}
	if _, e := array.Size(out); e != api.OK || sizeOf(out) == 0 {
		return must(array.Make(out, num(0)))
	}
	var items []api.Item
	for i := range sizeOf(ahead) {
		for j := range sizeOf(behind) {
			var made []api.Item
			for k := range n {
				x := l.Items[i*long+min(k, long-1)]
				y := r.Items[min(k, other-1)*sizeOf(behind)+j]
				made = append(made, enclosed(m.apply(g, with(array.Open(x)), array.Open(y))))
			}
			items = append(items, m.folded(f, vec(made...), []int{0}, 0, 0, n))
		}
	}
	return must(array.Make(out, items...))
}

func (m *model) axisOf(f api.Func, left []api.Array, right api.Array) api.Array {
	where, part := f.Where[0].Array, f.Parts[0]
	g, _ := utf8.DecodeRuneInString(part.Text)
	if part.Kind == api.Prim && strings.ContainsRune(scalar.Glyphs(), g) {
		axes, ok := array.ToInts(where)
		switch {
		case !ok:
			panic(api.Axis)
		case len(left) == 0 || g == '~':
			panic(api.Syntax)
		}
		return must(scalar.DyadicAt(m.env, g, axes, left[0], right))
	}
	axis, ok := array.ToInt(where)
	if !ok {
		panic(api.Axis)
	}
	switch {
	case part.Kind == api.Op1 && strings.Contains(`/⌿\⍀`, part.Text):
		if axis < m.env.IO || axis-m.env.IO >= len(right.Shape) {
			panic(api.Axis)
		}
		return m.along(part.Parts[0], part.Text, axis-m.env.IO, left, right)
	case part.Kind == api.Prim && len(left) == 0 && strings.Contains("⌽⊖", part.Text):
		return must(shape.MonadicAt(m.env, g, axis, right))
	case part.Kind == api.Prim && len(left) == 1 && strings.Contains(`,⍪/⌿\⍀⌽⊖`, part.Text):
		return must(shape.DyadicAt(m.env, g, axis, left[0], right))
	}
	panic(api.Syntax)
}

// functions are right ones of all kinds.
func functions() []api.Func {
	plus, minus, times, join := prim("+"), prim("-"), prim("×"), prim(",")
	return []api.Func{
		plus, minus, join, prim("⍴"), prim("⊂"), prim("⍕"), prim("⍎"), prim("/"), prim("≡"),
		op(plus, "/"), op(minus, "/"), op(minus, "⌿"), op(join, "/"), op(minus, `\`), op(minus, "⍀"), op(join, `\`), op(prim("⊂"), "/"), op(prim("⌈"), "/"), op(prim("="), "⌿"),
		op(minus, "¨"), op(prim("⍳"), "¨"), op(join, "¨"), op(prim("⍴"), "¨"), op(minus, "⍨"), op(op(minus, "⍨"), "⍨"), op(join, "⍨"),
		jot(times), jot(join), jot(minus), dot(plus, times), dot(minus, times), dot(prim("∧"), prim("=")), dot(join, join), dot(prim("⌈"), minus), dot(op(minus, "⍨"), op(plus, "¨")),
		op(op(minus, "/"), "¨"), op(op(minus, `\`), "⌿"), op(op(join, "¨"), "/"), op(dot(plus, times), "¨"), op(jot(plus), "/"), op(op(op(minus, "⍨"), "/"), "⍀"),
		at(op(minus, "/"), one(num(1))), at(op(minus, "⌿"), nums(2)), at(op(minus, `\`), one(num(1))), at(op(minus, "⍀"), one(num(2))), at(op(join, "/"), one(num(3))),
		at(minus, one(num(1))), at(minus, nums(1, 2)), at(minus, none(num(0), 0)), at(prim("~"), one(num(1))), at(prim("⌽"), one(num(1))), at(join, one(num(2))), at(prim("/"), one(num(1))), at(prim("⍴"), one(num(1))),
		at(op(minus, "¨"), one(num(1))), at(op(minus, "⍨"), one(num(1))), at(dot(plus, times), one(num(1))), at(at(minus, one(num(1))), one(num(1))), at(user("F"), one(num(1))),
		at(op(minus, "/"), text("a")), at(op(minus, "/"), nums(1, 2)), at(minus, arr([]int{1, 1}, num(1))), at(op(minus, "/"), one(number(frac(1, 2)))), at(op(minus, "/"), one(num(0))),
		op(at(op(minus, "/"), one(num(1))), "¨"), user("F"), {Kind: api.Dfn, Text: "{⍵}"},
	}
}

// TestModel holds what functions make of samples, and the steps they take, against the model.
func TestModel(t *testing.T) { // P9.1, P9.3 to P9.7, P1, P2, P3, E2, E3
	all := samples()
	for _, f := range functions() {
		for i, r := range all {
			inspect(t, f, nil, r)
			for k := range 14 {
				inspect(t, f, with(all[(i*5+k*3)%len(all)]), r)
			}
		}
	}
}

// inspect holds a function of arguments against the model, by steps in plenty, by as many as it takes, and by one less.
func inspect(t *testing.T, f api.Func, left []api.Array, right api.Array) {
	t.Helper()
	m := &model{env: env(1), steps: plenty}
	want, wantE := m.run(f, left, right)
	right = roomy(right)
	before := snapshot(right)
	in := []any{f, right}
	for k := range left {
		left = with(roomy(left[k]))
		before += snapshot(left[k])
		in = append(in, left[k])
	}
	for _, steps := range []int{plenty, m.used, m.used - 1} {
		got, used, e := oper.Plain(env(1), steps, f, left, right)
		if steps < m.used {
			want, wantE = api.Array{}, api.Interrupt
		}
		expect(t, oper.Print(f), got, e, want, wantE)
		if used != min(steps, m.used) {
			t.Error(oper.Print(f), left, right, "takes", used, "steps, not", min(steps, m.used))
		}
		if e == api.OK && !array.Right(got) {
			t.Error(oper.Print(f), "is not right:", got)
		}
		apart(t, oper.Print(f), got, in...)
	}
	after := snapshot(right)
	for _, a := range left {
		after += snapshot(a)
	}
	if after != before {
		t.Error(oper.Print(f), "changed", left, right)
	}
}
