package oper_test

import (
	"math"
	"reflect"
	"slices"
	"strings"
	"testing"

	"glyph/api"
	"glyph/array"
	"glyph/lex"
	"glyph/oper"
)

// nested is a function of so many levels, each made in another way.
func nested(levels int) api.Func {
	f := prim("+")
	for k := range levels - 1 {
		switch k % 5 {
		case 0:
			f = op(f, "/")
		case 1:
			f = dot(prim("-"), f)
		case 2:
			f = at(f, one(num(1)))
		case 3:
			f = jot(f)
		case 4:
			f = dot(f, prim("-"))
		}
	}
	return f
}

// loops are functions that lie in themselves.
func loops() []api.Func {
	single := op(prim("+"), "/")
	single.Parts[0] = single
	double := dot(prim("+"), prim("+"))
	double.Parts[0], double.Parts[1] = double, double
	second := dot(prim("+"), prim("+"))
	second.Parts[1] = second
	axis := at(prim("+"), one(num(1)))
	axis.Parts[0] = axis
	return []api.Func{single, double, second, axis}
}

// noFunctions may not be, each in another way.
func noFunctions() []api.Func {
	plus := prim("+")
	where := []api.Tree{{Kind: api.Const, Array: one(num(1))}}
	l := []api.Func{
		{}, {Kind: api.AxisOf + 1, Text: "+"}, {Kind: 255, Text: "+", Parts: []api.Func{plus}},
		prim(""), prim("++"), prim("a"), prim("1"), prim("¨"), prim("∘"), prim("."), prim("⍨"), prim("∘."), prim("←"), prim("∇"), prim("⍺"), prim(" "), prim("+ "), prim("\xc3"), prim("\x97"), prim("\xff"), prim("\ufffd"), prim("∈"),
		{Kind: api.Prim, Text: "+", Parts: []api.Func{plus}}, {Kind: api.Prim, Text: "+", Where: where},
		{Kind: api.User, Text: "F", Parts: []api.Func{plus}}, {Kind: api.Dfn, Text: "{⍵}", Parts: []api.Func{plus}},
		op(plus, ""), op(plus, "+"), op(plus, "."), op(plus, "∘."), op(plus, "∘"), op(plus, "//"), op(plus, "\xe2"), op(prim("¨"), "/"), op(op(plus, "+"), "/"), op(api.Func{}, "/"),
		{Kind: api.Op1, Text: "/"}, {Kind: api.Op1, Text: "/", Parts: []api.Func{plus, plus}}, {Kind: api.Op1, Text: "/", Parts: []api.Func{plus}, Where: where},
		{Kind: api.Op2, Text: "."}, {Kind: api.Op2, Text: ".", Parts: []api.Func{plus}}, {Kind: api.Op2, Text: ".", Parts: []api.Func{plus, plus, plus}},
		{Kind: api.Op2, Text: "∘."}, {Kind: api.Op2, Text: "∘.", Parts: []api.Func{plus, plus}}, {Kind: api.Op2, Text: "/", Parts: []api.Func{plus, plus}}, {Kind: api.Op2, Parts: []api.Func{plus, plus}},
		dot(plus, prim(".")), dot(prim("."), plus), jot(prim("∘")),
		{Kind: api.AxisOf}, {Kind: api.AxisOf, Parts: []api.Func{plus}}, {Kind: api.AxisOf, Where: where}, {Kind: api.AxisOf, Parts: []api.Func{plus, plus}, Where: where}, {Kind: api.AxisOf, Parts: []api.Func{plus}, Where: append(where, where...)},
		at(prim("⍨"), one(num(1))), nested(api.MaxNest + 1), nested(api.MaxNest + 5), op(nested(api.MaxNest), "¨"),
	}
	return append(l, loops()...)
}

func TestRight(t *testing.T) { // P9.2, P1
	for _, c := range lex.Primitives() {
		if got := oper.Right(prim(string(c))); got == strings.ContainsRune("¨∘.⍨", c) {
			t.Error(string(c), got)
		}
		if got := oper.Right(op(prim("+"), string(c))); got != strings.ContainsRune(`/⌿\⍀¨⍨`, c) {
			t.Error("+", string(c), got)
		}
	}
	for k := range functions() {
		if f := functions()[k]; !oper.Right(f) {
			t.Error(f)
		}
	}
	for _, f := range []api.Func{user("∇"), user("⎕FX"), nested(1), nested(2), nested(api.MaxNest), at(prim("+"), api.Array{}), {Kind: api.AxisOf, Parts: []api.Func{prim("+")}, Where: []api.Tree{{}}}} {
		if !oper.Right(f) {
			t.Error(f)
		}
	}
	for k, f := range noFunctions() {
		if oper.Right(f) {
			t.Error(k)
		}
	}
}

func TestMakers(t *testing.T) { // P9.2, P2
	f, g, axis := dot(prim("+"), prim("×")), at(prim("-"), nums(1, 2)), vec(boxed(nums(1, 2)), char('a'))
	f.At, g.Where[0].At = 5, 7
	for _, c := range []struct{ got, want api.Func }{
		{oper.Prim("+"), api.Func{Kind: api.Prim, Text: "+"}},
		{oper.Prim(""), api.Func{Kind: api.Prim}},
		{oper.Prim("no glyph\xff"), api.Func{Kind: api.Prim, Text: "no glyph\xff"}},
		{oper.Derived(f, "/"), api.Func{Kind: api.Op1, Text: "/", Parts: []api.Func{f}}},
		{oper.Derived(g, "none"), api.Func{Kind: api.Op1, Text: "none", Parts: []api.Func{g}}},
		{oper.Derived(api.Func{}, ""), api.Func{Kind: api.Op1, Parts: []api.Func{{}}}},
		{oper.Pair(f, ".", g), api.Func{Kind: api.Op2, Text: ".", Parts: []api.Func{f, g}}},
		{oper.Pair(f, "∘.", g), api.Func{Kind: api.Op2, Text: "∘.", Parts: []api.Func{g}}},
		{oper.Pair(f, "∘", api.Func{}), api.Func{Kind: api.Op2, Text: "∘", Parts: []api.Func{f, {}}}},
		{oper.On(f, axis), api.Func{Kind: api.AxisOf, Parts: []api.Func{f}, Where: []api.Tree{{Kind: api.Const, Array: axis}}}},
		{oper.On(api.Func{}, api.Array{}), api.Func{Kind: api.AxisOf, Parts: []api.Func{{}}, Where: []api.Tree{{Kind: api.Const}}}},
		{oper.On(f, arr([]int{-1}, api.Item{Kind: 9})), api.Func{Kind: api.AxisOf, Parts: []api.Func{f}, Where: []api.Tree{{Kind: api.Const, Array: arr([]int{-1}, api.Item{Kind: 9})}}}},
	} {
		if !reflect.DeepEqual(c.got, c.want) {
			t.Error("is", c.got, "want", c.want)
		}
		apart(t, c.got, c.got, f, g, axis)
	}
	for _, f := range loops() { // they end
		if oper.Right(oper.Derived(f, "/")) || oper.Right(oper.Pair(f, ".", f)) || oper.Right(oper.Pair(prim("+"), "∘.", f)) || oper.Right(oper.On(f, nums(1))) {
			t.Error(f.Text)
		}
	}
	for k, a := range wrongArrays() {
		if _, _, e := oper.Plain(env(1), 9, oper.On(op(prim("+"), "/"), a), nil, nums(1)); e != api.ErrForm {
			t.Error(k, e)
		}
	}
}

// TestMakersOfDeep: whatever may come up is copied, all of it.
func TestMakersOfDeep(t *testing.T) { // P9.2, P1
	const levels = 60000
	f := prim("+")
	for range levels {
		f = op(f, "/")
	}
	got, count := oper.Derived(f, "/"), 0
	for len(got.Parts) == 1 {
		got, count = got.Parts[0], count+1
	}
	if count != levels+1 || got.Text != "+" {
		t.Error(count, got.Text)
	}
	if oper.Right(f) || oper.Print(f) != "" {
		t.Error("right")
	}
}

func TestMakersKeepNothing(t *testing.T) { // P9.2, P3
	f := at(op(prim("+"), "/"), nums(1, 2))
	f.Where[0].Fn, f.Where[0].Parts = []api.Func{prim("-")}, []api.Tree{{Text: "A"}}
	axis := nums(3)
	got := []api.Func{oper.Derived(f, "¨"), oper.Pair(f, ".", prim("×")), oper.Pair(prim("×"), ".", f), oper.Pair(f, "∘.", f), oper.On(f, axis)}
	var before []string
	for _, g := range got {
		before = append(before, oper.Print(g))
	}
	f.Parts[0].Text, f.Parts[0].Parts[0].Text = "⌿", "-"
	f.Where[0].Array.Items[0], axis.Items[0].Num.Num[0] = char('x'), 9
	for k, g := range got {
		if oper.Print(g) != before[k] {
			t.Error(before[k], oper.Print(g))
		}
	}
}

func TestPrint(t *testing.T) { // P9.2
	plus, times := prim("+"), prim("×")
	unknown := api.Func{Kind: api.AxisOf, Parts: []api.Func{plus}, Where: []api.Tree{{Kind: api.Name, Text: "A"}}}
	for _, c := range []struct {
		f    api.Func
		want string
	}{
		{plus, "+"}, {prim(`\`), `\`}, {user("Foo"), "Foo"}, {user("∇"), "∇"}, {api.Func{Kind: api.Dfn, Text: "{ ⍵ }"}, "{ ⍵ }"},
		{op(plus, "/"), "+/"}, {op(op(plus, `\`), "⍨"), `+\⍨`}, {op(user("F"), "¨"), "F¨"},
		{jot(plus), "∘.+"}, {dot(plus, times), "+.×"}, {dot(dot(plus, times), prim("-")), "+.×.-"}, {op(jot(op(times, "⍨")), "⌿"), "∘.×⍨⌿"}, {jot(jot(plus)), "∘.∘.+"},
		{at(plus, one(num(1))), "+[1]"}, {at(op(plus, "/"), nums(1, -2)), "+/[1 ¯2]"}, {at(plus, one(char('\''))), "+['''']"}, {at(plus, none(num(0), 0)), "+[0⍴0]"}, {at(plus, vec(boxed(nums(1, 2)))), "+[,⊂(1 2)]"},
		{unknown, "+[]"}, {op(unknown, "¨"), "+[]¨"}, {at(unknown, one(num(2))), "+[][2]"},
		{nested(7), "∘.-.+/[1].-/"}, {op(prim("/"), "/"), "//"},
	} {
		if got := oper.Print(c.f); got != c.want {
			t.Error("prints", got, "want", c.want)
		}
	}
	if got := oper.Print(nested(api.MaxNest)); strings.Count(got, "∘.") != 12 {
		t.Error(got)
	}
	for k, f := range noFunctions() {
		if got := oper.Print(f); got != "" {
			t.Error(k, got)
		}
	}
}

func TestApplyErrors(t *testing.T) { // P9.1, P1, P2
	right := nums(1, 2)
	for _, f := range append(noFunctions(), prim("+"), op(prim("+"), "/"), user("F")) {
		a, e := oper.Apply(nil, f, with(api.Array{}), api.Array{})
		expect(t, "nil", a, e, api.Array{}, api.ErrNil)
		a, e = oper.Apply(nil, f, nil, right)
		expect(t, "nil", a, e, api.Array{}, api.ErrNil)
	}
	refused := func(what any, f api.Func, left []api.Array, right api.Array) {
		t.Helper()
		r := &recorder{env: env(1), steps: plenty, call: nil, axis: nil}
		a, e := oper.Apply(r, f, left, right)
		expect(t, what, a, e, api.Array{}, api.ErrForm)
		if len(r.log) > 0 {
			t.Error(what, r.log)
		}
		a, used, e := oper.Plain(env(1), plenty, f, left, right)
		expect(t, what, a, e, api.Array{}, api.ErrForm)
		if used != 0 {
			t.Error(what, used)
		}
		if _, used, e := oper.Plain(env(1), 0, f, left, right); e != api.ErrForm || used != 0 { // ahead of the first step
			t.Error(what, used, e)
		}
	}
	for k, f := range noFunctions() {
		refused(k, f, nil, right)
		refused(k, f, with(right), right)
	}
	for _, f := range functions() {
		for k, a := range wrongArrays() {
			refused(k, f, nil, a)
			refused(k, f, with(a), right)
			refused(k, f, with(right), a)
		}
		refused("two", f, []api.Array{right, right}, right)
		refused("many", f, make([]api.Array, 5), right)
	}
	for k, a := range wrongArrays() {
		refused(k, at(op(prim("+"), "/"), a), nil, right)
		refused(k, op(at(prim("+"), a), "¨"), with(right), right)
		refused(k, dot(prim("+"), at(prim("-"), a)), with(right), right)
		refused(k, at(at(prim("+"), a), one(num(1))), nil, right)
	}
	// What is no constant is the caller's to tell.
	if _, used, e := oper.Plain(env(1), 9, api.Func{Kind: api.AxisOf, Parts: []api.Func{prim("+")}, Where: []api.Tree{{Kind: api.Name, Array: api.Array{Shape: []int{-1}}}}}, nil, right); e != api.Syntax || used != 1 {
		t.Error(used, e)
	}
}

// TestPrimitives holds each glyph against the first layer that has it.
func TestPrimitives(t *testing.T) { // P9.1
	for _, c := range lex.Primitives() {
		f := prim(string(c))
		if strings.ContainsRune("¨∘.⍨", c) {
			continue
		}
		for _, a := range samples()[:20] {
			inspect(t, f, nil, a)
			for _, b := range samples()[:20] {
				inspect(t, f, with(a), b)
			}
		}
	}
	fails(t, prim("/"), nil, nums(1), api.Syntax, 1)
	fails(t, prim("⍕"), with(nums(1)), nums(1), api.Syntax, 1)
	fails(t, prim("⊂"), with(nums(1)), nums(1), api.Syntax, 1)
	fails(t, prim("⍎"), nil, text("1"), api.Syntax, 1)
	fails(t, prim("⊤"), nil, nums(1), api.Syntax, 1)
	gives(t, prim("⍕"), nil, nums(1, 2), text("1 2"), 1)
	gives(t, prim("~"), nil, nums(1, 0), nums(0, 1), 1)
	gives(t, prim("~"), with(nums(1, 2, 3)), nums(2), nums(1, 3), 1)
	gives(t, prim("↑"), nil, nums(4, 5), one(num(4)), 1)
	gives(t, prim("↑"), with(one(num(3))), nums(4, 5), nums(4, 5, 0), 1)
	gives(t, prim("|"), with(one(num(3))), nums(4, 5), nums(1, 2), 1)
}

// TestEnv: origin and tolerance are the caller's, as they are now.
func TestEnv(t *testing.T) { // P9.1, P6
	origin, _, _ := oper.Plain(env(0), 1, prim("⍳"), nil, one(num(3)))
	expect(t, "⍳", origin, api.OK, nums(0, 1, 2), api.OK)
	near := env(1)
	near.CT = frac(1, 2)
	got, _, e := oper.Plain(near, 9, op(prim("="), "/"), nil, nums(10, 11))
	expect(t, "=/", got, e, one(num(1)), api.OK)
	wrong := env(1)
	wrong.CT = api.Rat{}
	got, used, e := oper.Plain(wrong, 9, op(prim("+"), "/"), nil, nums(10, 11))
	expect(t, "+/", got, e, api.Array{}, api.ErrForm)
	if used != 2 {
		t.Error(used)
	}
	for _, io := range []int{-1, 2, math.MinInt, math.MaxInt} {
		for _, f := range functions() {
			for _, a := range samples()[:16] {
				got, _, e := oper.Plain(env(io), 99, f, with(nums(1)), a)
				if e == api.OK && !array.Right(got) {
					t.Error(got)
				}
			}
		}
	}
	r := &recorder{env: env(1), steps: 9}
	r.call = func(f api.Func, left []api.Array, right api.Array) (api.Array, api.Errno) {
		r.env.IO = 0
		return right, api.OK
	}
	got, e = oper.Apply(r, dot(prim("⊃"), user("F")), with(nums(0, 0)), vec(num(1), boxed(nums(7, 8))))
	expect(t, "⊃.F", got, e, one(num(8)), api.OK)
}

func TestSteps(t *testing.T) { // P9.1
	minus := prim("-")
	long := nums(1, 2, 3)
	for _, c := range []struct {
		f     api.Func
		left  []api.Array
		right api.Array
		steps int
	}{
		{minus, nil, long, 1}, {op(minus, "/"), nil, long, 3}, {op(minus, "/"), nil, nums(1), 1}, {op(minus, "/"), nil, one(num(1)), 1}, {op(minus, "/"), nil, counted(2, 3), 5}, {op(minus, "⌿"), nil, counted(2, 3), 4},
		{op(prim("+"), "/"), nil, none(num(0), 0), 1}, {op(minus, `\`), nil, long, 4}, {op(minus, `\`), nil, nums(1, 2, 3, 4), 7}, {op(minus, `\`), nil, counted(2, 3), 7}, {op(minus, "⍀"), nil, counted(2, 3), 4},
		{op(minus, "/"), with(one(num(2))), long, 3}, {op(minus, "/"), with(one(num(3))), long, 3}, {op(minus, "/"), with(one(num(1))), long, 1}, {op(minus, "/"), with(one(num(4))), long, 1},
		{op(minus, "¨"), nil, long, 4}, {op(minus, "¨"), with(long), long, 4}, {op(minus, "¨"), nil, none(num(0), 0), 2}, {op(minus, "⍨"), nil, long, 2}, {op(op(minus, "⍨"), "⍨"), with(long), long, 3}, {op(op(minus, "⍨"), "/"), nil, long, 5},
		{jot(minus), with(long), long, 10}, {jot(minus), with(long), none(num(0), 0), 2}, {dot(minus, minus), with(long), long, 6}, {dot(minus, minus), with(counted(2, 3)), counted(3, 2), 21}, {dot(minus, minus), with(one(num(1))), one(num(2)), 2},
		{dot(prim("+"), minus), with(none(num(0), 0)), none(num(0), 0), 1}, {at(op(minus, "/"), one(num(1))), nil, counted(2, 3), 4}, {at(minus, one(num(1))), with(nums(1, 2)), counted(2, 3), 1}, {at(prim("⌽"), one(num(1))), nil, long, 1},
		{op(at(op(minus, "/"), one(num(1))), "¨"), nil, vec(boxed(long), boxed(nums(1, 2))), 6},
	} {
		for steps := range c.steps + 2 {
			_, used, e := oper.Plain(env(1), steps, c.f, c.left, c.right)
			if steps >= c.steps && (used != c.steps || e != api.OK) || steps < c.steps && (used != steps || e != api.Interrupt) {
				t.Error(oper.Print(c.f), c.left, c.right, "by", steps, "takes", used, e, "want", c.steps)
			}
		}
		for _, steps := range []int{-1, math.MinInt} {
			a, used, e := oper.Plain(env(1), steps, c.f, c.left, c.right)
			expect(t, steps, a, e, api.Array{}, api.Interrupt)
			if used != 0 {
				t.Error(steps, used)
			}
		}
		if _, used, e := oper.Plain(env(1), math.MaxInt, c.f, c.left, c.right); used != c.steps || e != api.OK {
			t.Error(used, e)
		}
	}
	// Steps are counted with an error, too.
	fails(t, op(minus, "/"), nil, vec(char('a'), num(1), num(2)), api.Domain, 3)
	fails(t, op(minus, "/"), nil, vec(num(1), num(2), char('a'), num(3)), api.Domain, 2)
	fails(t, op(minus, "¨"), nil, vec(num(1), char('a'), num(2)), api.Domain, 3)
	fails(t, op(minus, `\`), with(nums(1)), nums(1), api.Syntax, 1)
	fails(t, user("F"), nil, nums(1), api.Syntax, 1)
	fails(t, op(api.Func{Kind: api.Dfn, Text: "{⍵}"}, "¨"), nil, nums(1, 2), api.Syntax, 2)
}

// caller is one whose function F tells what is asked of it.
func caller(tells func(left []api.Array, right api.Array) (api.Array, api.Errno)) *recorder {
	return &recorder{env: env(1), steps: plenty, call: func(f api.Func, left []api.Array, right api.Array) (api.Array, api.Errno) { return tells(left, right) }}
}

func TestCalls(t *testing.T) { // P9.1
	for _, f := range []api.Func{{Kind: api.User, Text: "F", At: 3}, {Kind: api.Dfn, Text: "{⍵}", At: 4}, {Kind: api.Prim, Text: "⍎", At: 5}} {
		for _, left := range [][]api.Array{nil, {}, with(nums(1, 2))} {
			r := caller(nil)
			r.call = func(g api.Func, l []api.Array, right api.Array) (api.Array, api.Errno) {
				if !reflect.DeepEqual(f, g) || len(l) != len(left) || len(l) > 0 && !array.Match(l[0], left[0]) || !array.Match(right, nums(3)) {
					t.Error(g, l, right)
				}
				return text("ab"), api.OK
			}
			got, e := oper.Apply(r, f, left, nums(3))
			expect(t, f.Text, got, e, text("ab"), api.OK)
			if len(r.log) != 2 || r.log[0] != "step" {
				t.Error(r.log)
			}
			r.steps = 0
			got, e = oper.Apply(r, f, left, nums(3))
			expect(t, f.Text, got, e, api.Array{}, api.Interrupt)
			if len(r.log) != 2 {
				t.Error(r.log)
			}
			for _, wrong := range wrongArrays() {
				got, e = oper.Apply(caller(func([]api.Array, api.Array) (api.Array, api.Errno) { return wrong, api.OK }), f, left, nums(3))
				expect(t, f.Text, got, e, api.Array{}, api.ErrForm)
				got, e = oper.Apply(caller(func([]api.Array, api.Array) (api.Array, api.Errno) { return wrong, api.OK }), op(f, "¨"), left, nums(3, 4))
				expect(t, f.Text, got, e, api.Array{}, api.ErrForm)
			}
			for _, x := range []api.Errno{api.Value, api.Interrupt, api.ErrForm, -5, 999} {
				got, e = oper.Apply(caller(func([]api.Array, api.Array) (api.Array, api.Errno) { return nums(1), x }), f, left, nums(3))
				expect(t, f.Text, got, e, api.Array{}, x)
			}
		}
	}
}

// TestStepErrors: what Step tells is told.
func TestStepErrors(t *testing.T) { // P9.1
	for _, x := range []api.Errno{api.Interrupt, api.Limit, -1} {
		got, e := oper.Apply(stopped{x}, prim("+"), nil, nums(1))
		expect(t, x, got, e, api.Array{}, x)
	}
}

// stopped is a caller without steps.
type stopped struct {
	errno api.Errno
}

func (s stopped) Call(api.Func, []api.Array, api.Array) (api.Array, api.Errno) {
	return nums(1), api.OK
}
func (s stopped) Step() api.Errno                      { return s.errno }
func (s stopped) Axis(api.Func) (api.Array, api.Errno) { return nums(1), api.OK }
func (s stopped) Env() api.Env                         { return env(1) }

// TestCallsOwn: what a caller is handed, keeps and tells lies in nothing else.
func TestCallsOwn(t *testing.T) { // P9.1, P3
	var kept []any
	r := caller(func(left []api.Array, right api.Array) (api.Array, api.Errno) {
		kept = append(kept, right)
		for _, a := range left {
			kept = append(kept, a)
		}
		return right, api.OK
	})
	a, b := vec(boxed(nums(1, 2)), boxed(text("ab"))), vec(boxed(nums(3)), num(4))
	for _, f := range []api.Func{user("F"), op(user("F"), "¨"), op(user("F"), "/"), op(user("F"), `\`), op(user("F"), "⍨"), jot(user("F")), dot(user("F"), user("F"))} {
		for _, left := range [][]api.Array{nil, with(a)} {
			kept = nil
			got, e := oper.Apply(r, f, left, b)
			if (f.Text == "∘." || f.Text == ".") && left == nil || f.Text == `\` && left != nil || f.Text == "/" && left != nil {
				continue
			}
			if e != api.OK || len(kept) == 0 {
				t.Error(oper.Print(f), e)
			}
			in := slices.Concat(kept, []any{a, b})
			apart(t, oper.Print(f), got, in...)
			for k, v := range kept {
				apart(t, oper.Print(f), v, slices.Concat(kept[:k], []any{a, b})...)
			}
		}
	}
}
