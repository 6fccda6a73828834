package oper_test

import (
	"slices"
	"testing"

	"glyph/api"
	"glyph/array"
	"glyph/oper"
)

func TestEach(t *testing.T) { // P9.1
	minus, join := prim("-"), prim(",")
	nested := vec(boxed(nums(1, 2)), num(3), boxed(text("ab")))
	gives(t, op(prim("⍴"), "¨"), nil, nested, vec(boxed(nums(2)), boxed(none(num(0), 0)), boxed(nums(2))), 4)
	gives(t, op(prim("≢"), "¨"), nil, nested, nums(2, 1, 2), 4)
	gives(t, op(prim("⊂"), "¨"), nil, nums(1, 2), nums(1, 2), 3)
	gives(t, op(prim("⊂"), "¨"), nil, vec(boxed(nums(1, 2))), vec(boxed(one(boxed(nums(1, 2))))), 2)
	gives(t, op(prim("⍳"), "¨"), nil, arr([]int{2, 1}, num(1), num(2)), arr([]int{2, 1}, boxed(nums(1)), boxed(nums(1, 2))), 3)
	gives(t, op(prim("↑"), "¨"), nil, one(boxed(nums(7, 8))), one(num(7)), 2)
	gives(t, op(minus, "¨"), nil, one(num(7)), one(num(-7)), 2)
	gives(t, op(join, "¨"), with(nums(1, 2)), nums(3, 4), vec(boxed(nums(1, 3)), boxed(nums(2, 4))), 3)
	// They go together as the arguments of scalar functions do.
	for _, a := range []api.Array{one(num(5)), nums(5), arr([]int{1, 1, 1}, num(5))} {
		gives(t, op(minus, "¨"), with(a), counted(2, 1), arr([]int{2, 1}, num(4), num(3)), 3)
		gives(t, op(minus, "¨"), with(counted(2, 1)), a, arr([]int{2, 1}, num(-4), num(-3)), 3)
	}
	gives(t, op(minus, "¨"), with(nums(5)), arr([]int{1, 1, 1}, num(1)), arr([]int{1, 1, 1}, num(4)), 2)
	gives(t, op(minus, "¨"), with(arr([]int{1, 1, 1}, num(1))), nums(5), arr([]int{1, 1, 1}, num(-4)), 2)
	gives(t, op(prim("⍴"), "¨"), with(one(num(2))), nested, vec(boxed(nums(1, 2)), boxed(nums(3, 3)), boxed(text("ab"))), 4)
	gives(t, op(prim("⍴"), "¨"), with(vec(boxed(nums(1, 2)))), nums(3, 4), vec(boxed(arr([]int{1, 2}, num(3), num(3))), boxed(arr([]int{1, 2}, num(4), num(4)))), 3)
	fails(t, op(minus, "¨"), with(nums(1, 2)), nums(1, 2, 3), api.Length, 1)
	fails(t, op(minus, "¨"), with(nums(1, 2)), counted(2, 1), api.Rank, 1)
	fails(t, op(minus, "¨"), with(counted(2, 1)), counted(1, 2), api.Length, 1)
	fails(t, op(minus, "¨"), with(none(num(0), 0)), nums(1, 2), api.Length, 1)
	fails(t, op(minus, "¨"), with(none(num(0), 0)), none(num(0), 0, 1), api.Rank, 1)
	fails(t, op(prim("⊂"), "¨"), with(nums(1, 2)), nums(1, 2), api.Syntax, 2)
}

// TestEachOfNone: the prototype is the type of what the function makes of the prototypes.
func TestEachOfNone(t *testing.T) { // P9.1
	minus := prim("-")
	gives(t, op(minus, "¨"), nil, none(num(0), 0), none(num(0), 0), 2)
	fails(t, op(minus, "¨"), nil, none(char(' '), 0), api.Domain, 2)
	fails(t, op(prim("÷"), "¨"), nil, none(num(0), 0), api.Domain, 2)
	gives(t, op(prim("⍳"), "¨"), nil, none(num(0), 0, 2), none(boxed(none(num(0), 0)), 0, 2), 2)
	gives(t, op(prim("≢"), "¨"), nil, none(char(' '), 2, 0), none(num(0), 2, 0), 2) // of a blank 1, of which the type is 0
	gives(t, op(prim("⍕"), "¨"), nil, none(num(0), 0), none(boxed(text(" ")), 0), 2)
	gives(t, op(prim("⍴"), "¨"), nil, none(boxed(counted(2, 3)), 0), none(boxed(nums(0, 0)), 0), 2)
	gives(t, op(prim("↑"), "¨"), nil, none(boxed(vec(char(' '), num(0))), 0), none(char(' '), 0), 2)
	gives(t, op(prim(","), "¨"), with(none(char(' '), 0)), none(num(0), 0), none(boxed(vec(char(' '), num(0))), 0), 2)
	gives(t, op(prim(","), "¨"), with(one(char('x'))), none(num(0), 3, 0), none(boxed(vec(char(' '), num(0))), 3, 0), 2)
	gives(t, op(prim(","), "¨"), with(none(num(0), 0)), text("x"), none(boxed(vec(num(0), char(' '))), 0), 2)
	gives(t, op(prim(","), "¨"), with(none(num(7), 0)), nums(9), none(boxed(nums(0, 0)), 0), 2)
	fails(t, op(minus, "¨"), with(one(char('x'))), none(num(0), 0), api.Domain, 2)
	fails(t, op(prim("⊂"), "¨"), with(one(char('x'))), none(num(0), 0), api.Syntax, 2)
	r := caller(func(left []api.Array, right api.Array) (api.Array, api.Errno) { return vec(char('q'), num(8)), api.OK })
	got, e := oper.Apply(r, op(user("F"), "¨"), with(vec(boxed(nums(5, 6)))), none(boxed(text("ab")), 0, 4))
	expect(t, "F¨", got, e, none(boxed(vec(char(' '), num(0))), 0, 4), api.OK)
	if r.calls() != "00F  " {
		t.Errorf("%q", r.calls())
	}
}

func TestTurned(t *testing.T) { // P9.1, P9.7
	minus := prim("-")
	gives(t, op(minus, "⍨"), with(one(num(5))), nums(1, 2), nums(-4, -3), 2)
	gives(t, op(minus, "⍨"), nil, nums(1, 2), nums(0, 0), 2)
	gives(t, op(prim("⍴"), "⍨"), nil, nums(2), nums(2, 2), 2)
	fails(t, op(prim("⊂"), "⍨"), nil, nums(2), api.Syntax, 2)
	for _, f := range []api.Func{minus, prim(","), prim("⍴"), prim("⍳"), op(minus, "/"), op(prim(","), "¨"), jot(minus), dot(prim("+"), minus), prim("⊂"), at(prim(","), one(num(1)))} {
		for i, a := range samples() {
			for k := range 8 {
				b := samples()[(i*3+k*5)%len(samples())]
				want, x := does(f, with(a), b)
				got, e := does(op(op(f, "⍨"), "⍨"), with(a), b)
				expect(t, oper.Print(f), got, e, want, x)
				want, x = does(f, with(b), a)
				got, e = does(op(f, "⍨"), with(a), b)
				expect(t, oper.Print(f), got, e, want, x)
			}
		}
	}
}

func TestOuter(t *testing.T) { // P9.1, P9.5
	times, join := prim("×"), prim(",")
	gives(t, jot(times), with(nums(1, 2)), nums(3, 4), arr([]int{2, 2}, numItems(3, 4, 6, 8)...), 5)
	gives(t, jot(join), with(nums(1, 2)), text("a"), arr([]int{2, 1}, boxed(vec(num(1), char('a'))), boxed(vec(num(2), char('a')))), 3)
	gives(t, jot(times), with(one(num(5))), one(num(6)), one(num(30)), 2)
	gives(t, jot(times), with(one(num(5))), nums(1, 2), nums(5, 10), 3)
	gives(t, jot(prim("-")), with(counted(2, 1)), counted(1, 2), arr([]int{2, 1, 1, 2}, numItems(0, -1, 1, 0)...), 5)
	gives(t, jot(join), with(vec(boxed(nums(1, 2)), num(3))), one(boxed(text("ab"))), vec(boxed(vec(num(1), num(2), char('a'), char('b'))), boxed(vec(num(3), char('a'), char('b')))), 3)
	gives(t, jot(op(times, "/")), with(nums(1, 2)), vec(boxed(nums(5, 6))), arr([]int{2, 1}, boxed(nums(5, 6)), boxed(nums(30))), 4)
	// Of an empty one as ¨.
	gives(t, jot(times), with(none(num(0), 0)), nums(1, 2), none(num(0), 0, 2), 2)
	gives(t, jot(join), with(text("ab")), none(num(0), 0, 3), none(boxed(vec(char(' '), num(0))), 2, 0, 3), 2)
	fails(t, jot(times), with(text("ab")), none(num(0), 0), api.Domain, 2)
	fails(t, jot(times), nil, nums(1), api.Syntax, 1)
	fails(t, jot(times), nil, none(char(' '), 0), api.Syntax, 1)
	// The shape is there, and not too great, ahead of the work.
	fails(t, jot(times), with(arr([]int{1, 1, 1, 1, 1}, num(1))), arr([]int{1, 1, 1, 1}, num(1)), api.Rank, 1)
	fails(t, jot(times), with(none(num(0), 1, 1, 1, 0, 1)), arr([]int{1, 1, 1, 1}, num(1)), api.Rank, 1)
	fails(t, jot(times), with(arr([]int{1, 1, 1, 1, 1}, char('a'))), arr([]int{1, 1, 1, 1}, num(1)), api.Rank, 1)
	gives(t, jot(times), with(arr([]int{1, 1, 1, 1}, num(2))), arr([]int{1, 1, 1, 1}, num(3)), arr([]int{1, 1, 1, 1, 1, 1, 1, 1}, num(6)), 2)
	fails(t, jot(times), with(nums(sequence(65)...)), nums(sequence(64)...), api.Limit, 1)
	fails(t, jot(times), with(repeated(65, char('a'))), nums(sequence(64)...), api.Limit, 1)
	got, e := does(jot(times), with(nums(sequence(64)...)), nums(sequence(64)...))
	if e != api.OK || !slices.Equal(got.Shape, []int{64, 64}) || len(got.Items) != api.MaxItems {
		t.Error(got.Shape, e)
	}
	fails(t, jot(prim("=")), with(repeated(64, char('a'))), nums(sequence(65)...), api.Limit, 1)
}

// TestOuterOfVectors: as many items as both together make; each is the function of its two.
func TestOuterOfVectors(t *testing.T) { // P9.5
	for _, f := range []api.Func{prim("-"), prim(","), prim("="), op(prim("-"), "⍨")} {
		for _, a := range samples() {
			for _, b := range samples() {
				if len(a.Shape) != 1 || len(b.Shape) != 1 || a.Shape[0]*b.Shape[0] == 0 {
					continue
				}
				got, e := does(jot(f), with(a), b)
				if e != api.OK {
					continue
				}
				if !slices.Equal(got.Shape, []int{a.Shape[0], b.Shape[0]}) || len(got.Items) != len(a.Items)*len(b.Items) {
					t.Fatal(oper.Print(f), a, b, got.Shape)
				}
				for k, i := range got.Items {
					want, x := does(f, with(array.Open(a.Items[k/len(b.Items)])), array.Open(b.Items[k%len(b.Items)]))
					expect(t, oper.Print(f), array.Open(i), api.OK, want, x)
				}
			}
		}
	}
}

func TestInner(t *testing.T) { // P9.1
	plus, times, minus := prim("+"), prim("×"), prim("-")
	mul := dot(plus, times)
	gives(t, mul, with(nums(1, 2, 3)), nums(4, 5, 6), one(num(32)), 6)
	gives(t, mul, with(counted(2, 2)), counted(2, 2), arr([]int{2, 2}, numItems(7, 10, 15, 22)...), 13)
	gives(t, dot(minus, times), with(counted(2, 3)), counted(3, 1), arr([]int{2, 1}, numItems(1-(4-9), 4-(10-18))...), 11)
	gives(t, dot(prim("∧"), prim("=")), with(text("abc")), text("abd"), one(num(0)), 6)
	gives(t, dot(prim(","), prim(",")), with(nums(1, 2)), text("ab"), one(boxed(vec(num(1), char('a'), num(2), char('b')))), 4)
	gives(t, mul, with(vec(boxed(nums(1, 2)), num(3))), vec(num(4), boxed(nums(5, 6))), one(boxed(nums(19, 26))), 4)
	gives(t, dot(plus, times), with(counted(2, 1, 2)), counted(2, 3), arr([]int{2, 1, 3}, numItems(9, 12, 15, 19, 26, 33)...), 19)
	// A scalar, and what has the length 1, go with each one.
	gives(t, mul, with(one(num(2))), nums(1, 2, 3), one(num(12)), 6)
	gives(t, mul, with(nums(1, 2, 3)), one(num(2)), one(num(12)), 6)
	gives(t, mul, with(nums(2)), nums(1, 2, 3), one(num(12)), 6)
	gives(t, mul, with(nums(1, 2, 3)), nums(2), one(num(12)), 6)
	gives(t, mul, with(counted(2, 1)), counted(3, 2), arr([]int{2, 2}, numItems(9, 12, 18, 24)...), 21)
	gives(t, mul, with(counted(2, 3)), counted(1, 2), arr([]int{2, 2}, numItems(6, 12, 15, 30)...), 21)
	gives(t, mul, with(one(num(2))), counted(2, 3), nums(10, 14, 18), 10)
	gives(t, mul, with(counted(2, 3)), one(num(2)), nums(12, 30), 11)
	gives(t, mul, with(one(num(2))), one(num(3)), one(num(6)), 2)
	gives(t, mul, with(nums(2)), one(num(3)), one(num(6)), 2)
	gives(t, dot(user("F"), prim(",")), with(one(num(2))), nums(3), one(boxed(nums(2, 3))), 2)
	for _, c := range [][2]api.Array{{nums(1, 2), nums(1, 2, 3)}, {none(num(0), 0), nums(1, 2)}, {nums(1, 2), none(num(0), 0, 2)}, {counted(3, 2), counted(3, 2)}, {none(num(0), 0, 2), counted(3, 2)}} {
		fails(t, mul, with(c[0]), c[1], api.Length, 1)
	}
	fails(t, mul, nil, nums(1), api.Syntax, 1)
	fails(t, mul, nil, none(num(0), 0), api.Syntax, 1)
	fails(t, dot(plus, prim("⊂")), with(nums(1)), nums(1), api.Syntax, 2)
	fails(t, dot(prim("⊂"), times), with(nums(1, 2)), nums(1, 2), api.Syntax, 4)
}

// TestInnerOfNone: lanes without items are folded as by /; without lanes the prototype is 0.
func TestInnerOfNone(t *testing.T) { // P9.1
	empty := none(char(' '), 0)
	for _, glyph := range "+×∧∨⌈," {
		f, g := prim(string(glyph)), prim(",")
		fold, x := does(op(f, "/"), nil, empty)
		for _, c := range []struct {
			l, r  api.Array
			shape []int
		}{
			{empty, empty, nil}, {empty, one(num(1)), nil}, {one(num(1)), empty, nil}, {nums(1), empty, nil}, {empty, nums(1), nil}, {none(num(0), 2, 0), none(num(0), 0, 3), []int{2, 3}}, {counted(2, 1), none(num(0), 0, 3), []int{2, 3}},
		} {
			want := api.Array{}
			if x == api.OK {
				want, _ = array.Make(c.shape, fold.Items...)
			}
			got, used, e := oper.Plain(env(1), plenty, dot(f, g), with(c.l), c.r)
			expect(t, oper.Print(dot(f, g)), got, e, want, x)
			if used != 1 {
				t.Error(used)
			}
		}
		gives(t, dot(f, g), with(none(char(' '), 0, 3)), repeated(3, char('a')), none(num(0), 0), 1)
		gives(t, dot(f, g), with(none(boxed(nums(0, 0)), 0, 3)), counted(3, 2), none(num(0), 0, 2), 1)
		gives(t, dot(f, g), with(counted(2, 3)), none(char(' '), 3, 0), none(num(0), 2, 0), 1)
		gives(t, dot(f, g), with(one(char('a'))), none(char(' '), 3, 0), none(num(0), 0), 1)
	}
	gives(t, dot(prim("+"), prim(",")), with(none(char(' '), 0, 0)), none(char(' '), 0, 2), none(num(0), 0, 2), 1)
	fails(t, dot(prim("⌈"), prim(",")), with(none(char(' '), 0, 0)), none(char(' '), 0, 2), api.Domain, 1)
	// Rank goes ahead of Length; Length, and Domain of none, ahead of Limit; and that ahead of the work.
	high := []int{1, 1, 1, 1, 1, 2}
	fails(t, dot(prim("+"), prim("-")), with(counted(high...)), counted(3, 1, 1, 1, 1), api.Rank, 1)
	fails(t, dot(prim("+"), prim("-")), with(counted(high...)), counted(2, 1, 1, 1, 1), api.Rank, 1)
	fails(t, dot(prim("+"), prim("-")), with(counted(high...)), counted(3, 1, 1, 1), api.Length, 1)
	gives(t, dot(prim("+"), prim("-")), with(counted(high...)), counted(2, 1, 1, 1), arr([]int{1, 1, 1, 1, 1, 1, 1, 1}, num(0)), 4)
	fails(t, dot(prim("+"), prim("-")), with(counted(65, 1)), counted(1, 64), api.Limit, 1)
	fails(t, dot(prim("+"), prim("-")), with(arr([]int{65, 2}, slices.Repeat([]api.Item{char('a')}, 130)...)), counted(2, 64), api.Limit, 1)
	fails(t, dot(prim("+"), prim("-")), with(counted(65, 2)), counted(3, 64), api.Length, 1)
	fails(t, dot(prim("+"), prim("-")), with(none(num(0), 65, 0)), none(num(0), 0, 64), api.Limit, 1)
	fails(t, dot(prim("⌈"), prim("-")), with(none(num(0), 65, 0)), none(num(0), 0, 64), api.Domain, 1)
	got, e := does(dot(prim("+"), prim("-")), with(none(num(0), 64, 0)), none(num(0), 0, 64))
	if e != api.OK || len(got.Items) != api.MaxItems {
		t.Error(got.Shape, e)
	}
}

func TestUnitMatrix(t *testing.T) { // P9.6, E2
	mul := dot(prim("+"), prim("×"))
	d := dice(99)
	for n := 1; n <= 6; n++ {
		unit, m := arr([]int{n, n}), arr([]int{n, n})
		for i := range n {
			for j := range n {
				bit := 0
				if i == j {
					bit = 1
				}
				unit.Items = append(unit.Items, num(bit))
				m.Items = append(m.Items, number(frac(d.next(41)-20, uint32(1+d.next(9)))))
			}
		}
		gives(t, mul, with(unit), m, m, -1)
		gives(t, mul, with(m), unit, m, -1)
		v := vec(m.Items[:n]...)
		if n > 1 { // of length 1 it is a vector of one, which goes with each one: then it has no axis left
			gives(t, mul, with(unit), v, v, -1)
			gives(t, mul, with(v), unit, v, -1)
		}
	}
}
