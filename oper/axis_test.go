package oper_test

import (
	"math"
	"testing"

	"glyph/api"
	"glyph/oper"
)

func TestAxisOfFolds(t *testing.T) { // P9.1
	minus := prim("-")
	cube := counted(2, 3, 2)
	for _, io := range []int{0, 1} {
		for axis := -1; axis < 4; axis++ {
			for _, operator := range []string{"/", "⌿", `\`, "⍀"} {
				f := at(op(minus, operator), one(num(axis+io)))
				m := &model{env: env(io), steps: plenty}
				want, x := m.run(f, nil, cube)
				got, used, e := oper.Plain(env(io), plenty, f, nil, cube)
				expect(t, oper.Print(f), got, e, want, x)
				if used != m.used || (e == api.Axis) != (axis < 0 || axis > 2) {
					t.Error(oper.Print(f), used, e)
				}
			}
		}
	}
	// Whichever operator it is, the axis is that which is told.
	gives(t, at(op(minus, "/"), one(num(1))), nil, matrix(), nums(-3, -3, -3), 4)
	gives(t, at(op(minus, "⌿"), one(num(2))), nil, matrix(), nums(2, 5), 5)
	for _, a := range []api.Array{nums(1), arr([]int{1, 1}, num(1)), arr([]int{1, 1, 1, 1, 1, 1, 1, 1}, num(1))} {
		gives(t, at(op(minus, "/"), a), nil, matrix(), nums(-3, -3, -3), 4)
	}
	for _, a := range []api.Array{one(num(0)), one(num(3)), one(num(-1)), one(num(math.MaxInt)), one(num(math.MinInt)), one(great(false)), one(great(true)), one(number(frac(3, 2))), one(char('1')), one(boxed(nums(1))), nums(1, 2), nums(1, 1), none(num(1), 0), none(char(' '), 0)} {
		fails(t, at(op(minus, "/"), a), nil, matrix(), api.Axis, 1)
		fails(t, at(op(minus, `\`), a), with(nums(1)), matrix(), api.Axis, 1)
		fails(t, at(op(minus, "⌿"), a), with(nums(1, 2)), matrix(), api.Axis, 1)
	}
	// A scalar has no axis.
	fails(t, at(op(minus, "/"), one(num(1))), nil, one(num(5)), api.Axis, 1)
	fails(t, at(op(minus, "/"), one(num(1))), with(one(num(1))), one(num(5)), api.Axis, 1)
	fails(t, at(op(minus, `\`), one(num(1))), nil, one(num(5)), api.Axis, 1)
	fails(t, at(op(minus, "/"), one(num(1))), with(nums(1, 2)), matrix(), api.Length, 1)
	fails(t, at(op(minus, `\`), one(num(1))), with(nums(1)), matrix(), api.Syntax, 1)
	gives(t, at(op(prim("+"), "/"), one(num(1))), nil, none(num(0), 0, 2), nums(0, 0), 1)
	gives(t, at(op(prim("⌈"), "/"), one(num(2))), nil, none(char(' '), 0, 2), none(char(' '), 0), 1)
}

func TestAxisOfPrimitives(t *testing.T) { // P9.1
	minus := prim("-")
	gives(t, at(minus, one(num(1))), with(nums(10, 20)), matrix(), arr([]int{2, 3}, numItems(9, 8, 7, 16, 15, 14)...), 1)
	gives(t, at(minus, nums(2)), with(matrix()), nums(1, 2, 3), arr([]int{2, 3}, numItems(0, 0, 0, 3, 3, 3)...), 1)
	gives(t, at(minus, nums(1, 2)), with(matrix()), counted(2, 3, 1), arr([]int{2, 3, 1}, numItems(0, 0, 0, 0, 0, 0)...), 1)
	gives(t, at(minus, none(char(' '), 0)), with(one(num(10))), nums(1, 2), nums(9, 8), 1)
	gives(t, at(prim("⌽"), one(num(1))), nil, matrix(), arr([]int{2, 3}, numItems(4, 5, 6, 1, 2, 3)...), 1)
	gives(t, at(prim("⊖"), nums(2)), nil, matrix(), arr([]int{2, 3}, numItems(3, 2, 1, 6, 5, 4)...), 1)
	gives(t, at(prim("⌽"), one(num(1))), with(one(num(1))), matrix(), arr([]int{2, 3}, numItems(4, 5, 6, 1, 2, 3)...), 1)
	gives(t, at(prim(","), one(num(1))), with(matrix()), one(num(0)), arr([]int{3, 3}, numItems(1, 2, 3, 4, 5, 6, 0, 0, 0)...), 1)
	gives(t, at(prim("/"), one(num(1))), with(nums(0, 2)), matrix(), arr([]int{2, 3}, numItems(4, 5, 6, 4, 5, 6)...), 1)
	gives(t, at(prim(`\`), one(num(1))), with(nums(1, 0, 1)), matrix(), arr([]int{3, 3}, numItems(1, 2, 3, 0, 0, 0, 4, 5, 6)...), 1)
	got, _, e := oper.Plain(env(0), 1, at(prim("⌽"), one(num(0))), nil, matrix())
	expect(t, "⌽[0]", got, e, arr([]int{2, 3}, numItems(4, 5, 6, 1, 2, 3)...), api.OK)
	// Errors of the layers.
	fails(t, at(minus, one(num(1))), with(matrix()), matrix(), api.Rank, 1)
	fails(t, at(minus, one(great(false))), with(matrix()), matrix(), api.Rank, 1)
	fails(t, at(minus, one(great(true))), with(matrix()), matrix(), api.Rank, 1)
	fails(t, at(minus, one(num(3))), with(nums(1, 2)), matrix(), api.Axis, 1)
	fails(t, at(minus, one(great(true))), with(nums(1, 2)), matrix(), api.Axis, 1)
	fails(t, at(minus, nums(2, 1)), with(matrix()), counted(2, 3, 1), api.Axis, 1)
	fails(t, at(minus, one(num(1))), with(nums(1, 2, 3)), matrix(), api.Length, 1)
	fails(t, at(minus, one(num(1))), with(text("ab")), matrix(), api.Domain, 1)
	fails(t, at(prim("⌽"), one(num(3))), nil, matrix(), api.Axis, 1)
	fails(t, at(prim("⌽"), one(great(false))), nil, matrix(), api.Axis, 1)
	fails(t, at(prim("⌽"), one(num(1))), with(nums(1, 2)), matrix(), api.Length, 1)
	fails(t, at(prim(","), one(num(1))), with(one(num(1))), one(num(2)), api.Axis, 1)
	// No whole number; of a scalar function whole numbers, in a scalar or a vector.
	for _, a := range []api.Array{one(char('1')), one(number(frac(1, 2))), vec(num(1), char('2')), arr([]int{1, 1}, num(1)), one(boxed(nums(1)))} {
		fails(t, at(minus, a), with(nums(1, 2)), matrix(), api.Axis, 1)
		fails(t, at(minus, a), nil, matrix(), api.Axis, 1)
		fails(t, at(prim("~"), a), nil, nums(1), api.Axis, 1)
	}
	for _, a := range []api.Array{one(char('1')), one(number(frac(1, 2))), nums(1, 2), none(num(0), 0), one(boxed(nums(1)))} {
		for _, f := range []api.Func{prim("⌽"), prim(","), prim("⍴"), prim("⍕"), prim("⍎"), user("F"), op(minus, "¨"), op(minus, "⍨"), jot(minus), dot(minus, minus), at(minus, one(num(1)))} {
			fails(t, at(f, a), nil, matrix(), api.Axis, 1)
			fails(t, at(f, a), with(nums(1, 2)), matrix(), api.Axis, 1)
		}
	}
	// Which have none.
	for _, f := range []api.Func{prim("⍴"), prim("↑"), prim("⊂"), prim("⍕"), prim("⍎"), prim("⍉"), user("F"), {Kind: api.Dfn, Text: "{⍵}"}, op(minus, "¨"), op(minus, "⍨"), jot(minus), dot(minus, minus), at(minus, one(num(1))), at(op(minus, "/"), one(num(1)))} {
		for _, a := range []api.Array{one(num(1)), nums(1), one(num(9)), one(great(false)), one(great(true))} {
			fails(t, at(f, a), nil, matrix(), api.Syntax, 1)
			fails(t, at(f, a), with(nums(1, 2)), matrix(), api.Syntax, 1)
		}
	}
	for _, f := range []api.Func{minus, prim("~"), prim("÷"), prim("!")} {
		fails(t, at(f, nums(1, 2)), nil, matrix(), api.Syntax, 1)
	}
	fails(t, at(prim("~"), nums(1, 2)), with(nums(1)), matrix(), api.Syntax, 1)
	fails(t, at(prim(","), one(num(1))), nil, matrix(), api.Syntax, 1)
	fails(t, at(prim("/"), one(num(1))), nil, matrix(), api.Syntax, 1)
}

// TestAxisIsAsked: of the caller, each time, behind the step.
func TestAxisIsAsked(t *testing.T) { // P9.1
	f := api.Func{Kind: api.AxisOf, Parts: []api.Func{op(prim("-"), "/")}, Where: []api.Tree{{Kind: api.Name, Text: "A", At: 4}}, At: 2}
	next := 0
	r := &recorder{env: env(1), steps: plenty}
	r.axis = func(g api.Func) (api.Array, api.Errno) {
		if g.Kind != api.AxisOf || g.At != 2 || len(g.Where) != 1 || g.Where[0].Text != "A" || g.Where[0].At != 4 {
			t.Error(g)
		}
		next++
		return nums(next), api.OK
	}
	got, e := oper.Apply(r, op(f, "¨"), nil, vec(boxed(matrix()), boxed(matrix())))
	expect(t, "-/[A]¨", got, e, vec(boxed(nums(-3, -3, -3)), boxed(nums(2, 5))), api.OK)
	if next != 2 || r.log[0] != "step" || r.log[1] != "step" || r.log[2] != "axis" {
		t.Error(next, r.log)
	}
	for _, x := range []api.Errno{api.Value, api.Syntax, api.Interrupt, -3} {
		for _, part := range functions() {
			r := &recorder{env: env(1), steps: plenty, axis: func(api.Func) (api.Array, api.Errno) { return nums(1), x }}
			got, e := oper.Apply(r, at(part, one(num(1))), nil, matrix())
			expect(t, x, got, e, api.Array{}, x)
		}
	}
	for k, a := range wrongArrays() { // no whole number
		r := &recorder{env: env(1), steps: plenty, axis: func(api.Func) (api.Array, api.Errno) { return a, api.OK }}
		for _, part := range []api.Func{prim("-"), prim("⌽"), op(prim("-"), "/"), user("F")} {
			got, e := oper.Apply(r, at(part, one(num(1))), nil, matrix())
			expect(t, k, got, e, api.Array{}, api.Axis)
		}
	}
	for _, where := range []api.Tree{{}, {Kind: api.Name, Text: "A"}, {Kind: api.Strand, Array: nums(1)}, {Kind: api.None}} {
		fails(t, api.Func{Kind: api.AxisOf, Parts: []api.Func{prim("⌽")}, Where: []api.Tree{where}}, nil, matrix(), api.Syntax, 1)
	}
}
