package oper_test

import (
	"testing"

	"glyph/api"
	"glyph/array"
	"glyph/lex"
	"glyph/oper"
	"glyph/rat"
	"glyph/scalar"
)

// matrix is 1 2 3, and 4 5 6.
func matrix() api.Array {
	return counted(2, 3)
}

func TestFold(t *testing.T) { // P9.1
	plus, minus, join := prim("+"), prim("-"), prim(",")
	gives(t, op(minus, "/"), nil, nums(1, 2, 3), one(num(2)), 3)
	gives(t, op(minus, "/"), nil, matrix(), nums(2, 5), 5)
	gives(t, op(minus, "⌿"), nil, matrix(), nums(-3, -3, -3), 4)
	gives(t, op(minus, "/"), nil, counted(2, 2, 2), arr([]int{2, 2}, numItems(-1, -1, -1, -1)...), 5)
	gives(t, op(minus, "⌿"), nil, counted(2, 1, 2), arr([]int{1, 2}, numItems(-2, -2)...), 3)
	gives(t, at(op(minus, "/"), one(num(2))), nil, counted(2, 2, 2), arr([]int{2, 2}, numItems(-2, -2, -2, -2)...), 5)
	gives(t, op(plus, "/"), nil, vec(number(frac(1, 2)), number(frac(1, 3)), number(frac(1, 6))), one(num(1)), 3)
	// Items are opened, and what is made of them is enclosed.
	gives(t, op(join, "/"), nil, nums(1, 2, 3), one(boxed(nums(1, 2, 3))), 3)
	gives(t, op(plus, "/"), nil, vec(boxed(nums(1, 2)), boxed(nums(3, 4))), one(boxed(nums(4, 6))), 2)
	gives(t, op(join, "/"), nil, vec(boxed(text("ab")), boxed(text("c")), boxed(none(num(0), 0))), one(boxed(text("abc"))), 3)
	gives(t, op(join, "/"), nil, matrix(), vec(boxed(nums(1, 2, 3)), boxed(nums(4, 5, 6))), 5)
	gives(t, op(prim("⊃"), "/"), nil, vec(num(2), boxed(nums(7, 8))), one(num(8)), 2)
	// Of a scalar it, whatever the function is; of one item that.
	for _, f := range []api.Func{plus, join, prim("⍕"), prim("/"), user("F"), op(minus, "/")} {
		for _, operator := range []string{"/", "⌿", `\`, "⍀"} {
			for _, a := range []api.Array{one(num(7)), one(char('x')), one(boxed(nums(1, 2))), deep(api.MaxDepth)} {
				gives(t, op(f, operator), nil, a, a, 1)
			}
		}
		gives(t, op(f, "/"), nil, nums(7), one(num(7)), 1)
		gives(t, op(f, "/"), nil, vec(boxed(nums(1, 2))), one(boxed(nums(1, 2))), 1)
		gives(t, op(f, "/"), nil, counted(3, 1), nums(1, 2, 3), 1)
		gives(t, op(f, "⌿"), nil, counted(1, 3), nums(1, 2, 3), 1)
	}
	fails(t, op(prim("⍕"), "/"), nil, nums(1, 2), api.Syntax, 2)
	fails(t, op(plus, "/"), nil, vec(boxed(nums(1, 2)), boxed(nums(1, 2, 3))), api.Length, 2)
}

// TestFoldOfNone: the identity of each scalar function that has one, at each place; Domain of all others.
func TestFoldOfNone(t *testing.T) { // P9.1
	for _, c := range lex.Primitives() {
		f := prim(string(c))
		if !oper.Right(f) {
			continue
		}
		x, ok := scalar.Identity(c)
		if !ok {
			fails(t, op(f, "/"), nil, none(num(0), 0), api.Domain, 1)
			fails(t, op(f, "⌿"), nil, none(num(0), 0, 2), api.Domain, 1)
			fails(t, op(f, "/"), nil, none(num(0), 0, 0), api.Domain, 1)
			fails(t, dot(f, prim("-")), with(none(num(0), 0)), none(num(0), 0), api.Domain, 1)
			continue
		}
		for _, proto := range []api.Item{num(0), char(' '), boxed(nums(0, 0))} {
			gives(t, op(f, "/"), nil, none(proto, 0), one(number(x)), 1)
			gives(t, op(f, "/"), nil, none(proto, 2, 0), vec(number(x), number(x)), 1)
			gives(t, op(f, "⌿"), nil, none(proto, 0, 3), vec(number(x), number(x), number(x)), 1)
			gives(t, at(op(f, "/"), one(num(2))), nil, none(proto, 2, 0, 1), arr([]int{2, 1}, number(x), number(x)), 1)
		}
	}
	for _, f := range []api.Func{op(prim("+"), "⍨"), op(prim("+"), "¨"), dot(prim("+"), prim("+")), jot(prim("+")), at(prim("+"), one(num(1))), user("F"), {Kind: api.User, Text: "+"}} {
		fails(t, op(f, "/"), nil, none(num(0), 0), api.Domain, 1)
		fails(t, dot(f, prim("+")), with(none(num(0), 0)), none(num(0), 0), api.Domain, 1)
	}
	great := none(char(' '), api.MaxItems, api.MaxItems, 0)
	fails(t, op(prim("+"), "/"), nil, great, api.Limit, 1)
	fails(t, op(prim("⌈"), "/"), nil, great, api.Domain, 1)
	full := none(char(' '), 64, 64, 0)
	got, e := does(op(prim("×"), "/"), nil, full)
	if e != api.OK || len(got.Shape) != 2 || len(got.Items) != api.MaxItems || !array.Match(array.Open(got.Items[api.MaxItems-1]), one(num(1))) {
		t.Error(got.Shape, e)
	}
}

// TestFoldWithoutLanes: the prototype is that of the array.
func TestFoldWithoutLanes(t *testing.T) { // P9.1
	for _, proto := range []api.Item{num(0), char(' '), boxed(nums(0, 0))} {
		gives(t, op(prim("⌈"), "/"), nil, none(proto, 0, 3), none(proto, 0), 1)
		gives(t, op(prim(","), "⌿"), nil, none(proto, 3, 0), none(proto, 0), 1)
		gives(t, op(prim("+"), "/"), nil, none(proto, 0, 0), none(proto, 0), 1)
		gives(t, op(user("F"), "/"), nil, none(proto, 2, 0, 1), none(proto, 2, 0), 1)
		gives(t, op(prim("+"), "/"), nil, none(proto, api.MaxItems, api.MaxItems, 0, 0), none(proto, api.MaxItems, api.MaxItems, 0), 1)
		for _, shape := range [][]int{{0}, {0, 3}, {3, 0}, {0, 0}, {api.MaxItems, api.MaxItems, 0}} {
			gives(t, op(user("F"), `\`), nil, none(proto, shape...), none(proto, shape...), 1)
			gives(t, op(user("F"), "⍀"), nil, none(proto, shape...), none(proto, shape...), 1)
		}
	}
	gives(t, op(prim("⌈"), "/"), nil, none(num(5), 0, 3), none(num(0), 0), 1)
	gives(t, op(prim("⌈"), `\`), nil, none(char('a'), 0), none(char(' '), 0), 1)
}

func TestScan(t *testing.T) { // P9.1
	minus, join := prim("-"), prim(",")
	gives(t, op(prim("+"), `\`), nil, nums(1, 2, 3), nums(1, 3, 6), 4)
	gives(t, op(prim("×"), `\`), nil, nums(1, 2, 3, 4), nums(1, 2, 6, 24), 7)
	gives(t, op(minus, `\`), nil, nums(1, 2, 3, 4), nums(1, -1, 2, -2), 7)
	gives(t, op(minus, `\`), nil, matrix(), arr([]int{2, 3}, numItems(1, -1, 2, 4, -1, 5)...), 7)
	gives(t, op(minus, "⍀"), nil, matrix(), arr([]int{2, 3}, numItems(1, 2, 3, -3, -3, -3)...), 4)
	gives(t, at(op(minus, `\`), one(num(2))), nil, counted(2, 2, 2), arr([]int{2, 2, 2}, numItems(1, 2, -2, -2, 5, 6, -2, -2)...), 5)
	gives(t, op(join, `\`), nil, nums(1, 2, 3), vec(num(1), boxed(nums(1, 2)), boxed(nums(1, 2, 3))), 4)
	gives(t, op(user("F"), `\`), nil, nums(4), nums(4), 1)
	for _, operator := range []string{`\`, "⍀"} {
		for _, a := range []api.Array{one(num(1)), nums(1, 2), none(num(0), 0), matrix()} {
			fails(t, op(minus, operator), with(one(num(1))), a, api.Syntax, 1)
			fails(t, op(minus, operator), with(none(num(0), 0)), a, api.Syntax, 1)
		}
		fails(t, at(op(minus, operator), one(num(1))), with(one(num(1))), nums(1), api.Syntax, 1)
	}
}

func TestNeighbours(t *testing.T) { // P9.1
	plus, minus := prim("+"), prim("-")
	long := nums(1, 2, 4, 8)
	gives(t, op(plus, "/"), with(one(num(2))), nums(1, 2, 3), nums(3, 5), 3)
	gives(t, op(minus, "/"), with(one(num(1))), long, long, 1)
	gives(t, op(minus, "/"), with(one(num(2))), long, nums(-1, -2, -4), 4)
	gives(t, op(minus, "/"), with(one(num(3))), long, nums(3, 6), 5)
	gives(t, op(minus, "/"), with(one(num(4))), long, nums(-5), 4)
	gives(t, op(minus, "/"), with(one(num(5))), long, none(num(0), 0), 1)
	fails(t, op(minus, "/"), with(one(num(6))), long, api.Length, 1)
	fails(t, op(minus, "/"), with(one(great(false))), long, api.Length, 1)
	gives(t, op(minus, "/"), with(one(num(2))), matrix(), arr([]int{2, 2}, numItems(-1, -1, -1, -1)...), 5)
	gives(t, op(minus, "⌿"), with(one(num(2))), matrix(), arr([]int{1, 3}, numItems(-3, -3, -3)...), 4)
	gives(t, op(minus, "⌿"), with(one(num(3))), matrix(), none(num(0), 0, 3), 1)
	gives(t, at(op(minus, "/"), one(num(2))), with(one(num(2))), counted(2, 3, 2), arr([]int{2, 2, 2}, numItems(-2, -2, -2, -2, -2, -2, -2, -2)...), 9)
	gives(t, op(prim(","), "/"), with(one(num(2))), text("abc"), vec(boxed(text("ab")), boxed(text("bc"))), 3)
	// A left argument of one item, of any shape.
	for _, shape := range [][]int{nil, {1}, {1, 1}, {1, 1, 1, 1, 1, 1, 1, 1}} {
		gives(t, op(plus, "/"), with(arr(shape, num(2))), nums(1, 2, 3), nums(3, 5), 3)
	}
	for _, a := range []api.Array{nums(2, 2), none(num(2), 0), none(num(2), 1, 0), text("ab"), matrix()} {
		fails(t, op(plus, "/"), with(a), long, api.Length, 1)
	}
	for _, i := range []api.Item{num(0), num(-1), great(true), number(frac(1, 2)), number(frac(3, 2)), char('2'), boxed(nums(2))} {
		fails(t, op(plus, "/"), with(one(i)), long, api.Domain, 1)
		fails(t, op(plus, "/"), with(vec(i)), one(num(1)), api.Domain, 1)
	}
	// A scalar is as a vector of it.
	gives(t, op(minus, "/"), with(one(num(1))), one(num(7)), nums(7), 1)
	gives(t, op(minus, "⌿"), with(one(num(2))), one(char('a')), none(char(' '), 0), 1)
	gives(t, op(minus, "/"), with(one(num(1))), one(boxed(nums(1, 2))), vec(boxed(nums(1, 2))), 1)
	fails(t, op(minus, "/"), with(one(num(3))), one(num(7)), api.Length, 1)
	// Of an empty axis, and without lanes.
	gives(t, op(minus, "/"), with(one(num(1))), none(char(' '), 0), none(char(' '), 0), 1)
	fails(t, op(minus, "/"), with(one(num(2))), none(char(' '), 0), api.Length, 1)
	gives(t, op(prim("⌈"), "/"), with(one(num(2))), none(boxed(nums(0)), 0, 3), none(boxed(nums(0)), 0, 2), 1)
	gives(t, op(prim("⌈"), "⌿"), with(one(num(1))), none(char(' '), 0, 3), none(char(' '), 0, 3), 1)
	gives(t, op(prim("⌈"), "/"), with(one(num(api.MaxItems+1))), repeated(api.MaxItems, char('a')), none(char(' '), 0), 1)
	fails(t, op(prim("⌈"), "/"), with(one(num(api.MaxItems+2))), repeated(api.MaxItems, char('a')), api.Length, 1)
}

// TestLaneOrder: lanes in ravel order, each of them from its first place on, each fold from its last item on.
func TestLaneOrder(t *testing.T) { // P9.1
	f := user("F")
	tells := func(left []api.Array, right api.Array) (api.Array, api.Errno) { return right, api.OK }
	for _, c := range []struct {
		f     api.Func
		left  []api.Array
		right api.Array
		want  string
	}{
		{op(f, "/"), nil, matrix(), "2F3 1F3 5F6 4F6"}, {op(f, "⌿"), nil, matrix(), "1F4 2F5 3F6"}, {op(f, `\`), nil, nums(1, 2, 3), "1F2 2F3 1F3"},
		{op(f, "⍀"), nil, counted(3, 2), "1F3 3F5 1F5 2F4 4F6 2F6"}, {op(f, "⌿"), with(one(num(2))), counted(3, 2), "1F3 3F5 2F4 4F6"}, {op(f, "/"), with(one(num(2))), matrix(), "1F2 2F3 4F5 5F6"},
		{op(f, "¨"), nil, matrix(), "F1 F2 F3 F4 F5 F6"}, {op(f, "¨"), with(nums(7, 8)), nums(1, 2), "7F1 8F2"}, {op(f, "⍨"), with(one(num(7))), one(num(8)), "8F7"}, {op(f, "⍨"), nil, one(num(8)), "8F8"},
		{jot(f), with(nums(1, 2)), nums(3, 4), "1F3 1F4 2F3 2F4"}, {dot(f, user("G")), with(nums(1, 2, 3)), nums(4, 5, 6), "1G4 2G5 3G6 5F6 4F6"},
		{dot(f, user("G")), with(counted(2, 2)), arr([]int{2, 2}, numItems(5, 6, 7, 8)...), "1G5 2G7 5F7 1G6 2G8 6F8 3G5 4G7 5F7 3G6 4G8 6F8"},
		{at(op(f, "/"), one(num(2))), nil, counted(2, 2, 2), "1F3 2F4 5F7 6F8"},
	} {
		r := caller(tells)
		r.axis = func(api.Func) (api.Array, api.Errno) { return c.f.Where[0].Array, api.OK }
		if c.f.Kind == api.AxisOf {
			c.want = "axis " + c.want
		}
		if _, e := oper.Apply(r, c.f, c.left, c.right); e != api.OK || r.calls() != c.want {
			t.Error(oper.Print(c.f), e, "calls", r.calls(), "want", c.want)
		}
	}
}

// TestFirstErrorEnds: nothing is called behind it.
func TestFirstErrorEnds(t *testing.T) { // P9.1, P2
	f := user("F")
	r := caller(nil)
	r.call = func(_ api.Func, left []api.Array, right api.Array) (api.Array, api.Errno) {
		n, _ := array.ToInt(right)
		return right, []api.Errno{api.OK, api.OK, api.OK, api.OK, api.Value, api.Index, api.Domain}[n]
	}
	for _, c := range []struct {
		f     api.Func
		left  []api.Array
		right api.Array
		want  api.Errno
		calls string
	}{
		{op(f, "¨"), nil, nums(1, 5, 4), api.Index, "F1 F5"}, {op(f, "¨"), with(one(num(0))), nums(4, 5), api.Value, "0F4"}, {op(f, "⌿"), nil, counted(2, 3), api.Value, "1F4"}, {op(f, "/"), nil, matrix(), api.Domain, "2F3 1F3 5F6"},
		{op(f, "⍀"), nil, arr([]int{3, 2}, numItems(1, 1, 2, 6, 5, 1)...), api.Index, "1F2 2F5"}, {jot(f), with(nums(1, 2)), nums(3, 4), api.Value, "1F3 1F4"}, {dot(f, user("G")), with(nums(1, 2, 3)), nums(2, 6, 4), api.Domain, "1G2 2G6"},
	} {
		r.log = nil
		got, e := oper.Apply(r, c.f, c.left, c.right)
		expect(t, oper.Print(c.f), got, e, api.Array{}, c.want)
		if r.calls() != c.calls {
			t.Error(oper.Print(c.f), "calls", r.calls(), "want", c.calls)
		}
	}
}

// TestEnclosed: what cannot be enclosed is a Limit where it comes up; that all together is too great is told at last.
func TestEnclosed(t *testing.T) { // P9.1, E3
	made := func(l ...api.Array) *recorder {
		k := -1
		return caller(func([]api.Array, api.Array) (api.Array, api.Errno) {
			k++
			if len(l[k].Items) == 0 {
				return api.Array{}, api.Value
			}
			return l[k], api.OK
		})
	}
	f, fault := user("F"), api.Array{}
	full := repeated(api.MaxItems-1, num(1))
	fits, over := vec(boxed(full), boxed(full), boxed(full), boxed(repeated(api.MaxItems-2, num(1)))), vec(boxed(full), boxed(full), boxed(full), boxed(full))
	if array.Cells(fits) != api.MaxCells-1 || array.Cells(over) != api.MaxCells {
		t.Fatal(array.Cells(fits), array.Cells(over))
	}
	two, three := nums(1, 2), nums(1, 2, 3)
	for _, c := range []struct {
		what  string
		f     api.Func
		left  []api.Array
		right api.Array
		made  []api.Array
		want  api.Errno
		calls int
	}{
		{"deep ¨", op(f, "¨"), nil, two, []api.Array{deep(api.MaxDepth - 1), nums(1)}, api.OK, 2},
		{"deeper ¨", op(f, "¨"), nil, two, []api.Array{deep(api.MaxDepth), fault}, api.Limit, 1},
		{"later ¨", op(f, "¨"), nil, two, []api.Array{fault, deep(api.MaxDepth)}, api.Value, 1},
		{"deep /", op(f, "/"), nil, two, []api.Array{deep(api.MaxDepth - 1)}, api.OK, 1},
		{"deeper /", op(f, "/"), nil, two, []api.Array{deep(api.MaxDepth)}, api.Limit, 1},
		{"deeper on the way /", op(f, "/"), nil, three, []api.Array{deep(api.MaxDepth), nums(1)}, api.OK, 2},
		{"deeper lane /", op(f, "/"), nil, counted(2, 2), []api.Array{deep(api.MaxDepth), fault}, api.Limit, 1},
		{"deeper scan", op(f, `\`), nil, three, []api.Array{deep(api.MaxDepth), fault}, api.Limit, 1},
		{"deeper outer", jot(f), with(two), two, []api.Array{nums(1), deep(api.MaxDepth), fault}, api.Limit, 2},
		{"deep inner", dot(prim("≡"), f), with(two), two, []api.Array{deep(api.MaxDepth - 1), nums(1)}, api.OK, 2},
		{"deeper inner", dot(prim("≡"), f), with(two), two, []api.Array{deep(api.MaxDepth), fault}, api.Limit, 1},
		{"great /", op(f, "/"), nil, two, []api.Array{fits}, api.OK, 1},
		{"greater /", op(f, "/"), nil, two, []api.Array{over}, api.Limit, 1},
		{"greater ¨", op(f, "¨"), nil, two, []api.Array{over, fault}, api.Limit, 1},
		{"greater inner", dot(prim("≡"), f), with(two), two, []api.Array{over, fault}, api.Limit, 1},
		{"great inner", dot(prim("≡"), f), with(two), two, []api.Array{fits, fits}, api.OK, 2},
		{"together ¨", op(f, "¨"), nil, three, []api.Array{full, full, full}, api.OK, 3},
		{"together too great ¨", op(f, "¨"), nil, three, []api.Array{fits, fits, nums(1)}, api.Limit, 3},
		{"together too great ¨, and an error", op(f, "¨"), nil, three, []api.Array{fits, fits, fault}, api.Value, 3},
		{"together too great /", op(f, "/"), nil, counted(2, 2), []api.Array{fits, nums(1)}, api.Limit, 2},
		{"of none", op(f, "¨"), nil, none(num(0), 0), []api.Array{deep(api.MaxDepth)}, api.Limit, 1},
		{"of none, great", jot(f), with(two), none(num(0), 0), []api.Array{over}, api.Limit, 1},
	} {
		r := made(c.made...)
		got, e := oper.Apply(r, c.f, c.left, c.right)
		if e != c.want || e == api.OK != array.Right(got) {
			t.Error(c.what, e, "want", c.want)
		}
		if calls := len(r.log) - countOf(r.log, "step"); calls != c.calls {
			t.Error(c.what, calls, "calls, not", c.calls)
		}
	}
	fails(t, prim("⊂"), nil, deep(api.MaxDepth), api.Limit, 1)
}

func countOf(l []string, s string) int {
	n := 0
	for _, one := range l {
		if one == s {
			n++
		}
	}
	return n
}

func TestSumOfWholeNumbers(t *testing.T) { // P9.3, E2
	d := dice(1234567)
	for n := range 40 {
		var l []int
		sum := 0
		for range n {
			l = append(l, d.next(2000001)-1000000)
			sum += l[len(l)-1]
		}
		gives(t, op(prim("+"), "/"), nil, array.Ints(l...), one(num(sum)), max(n, 1))
	}
	large := api.Rat{Num: []uint32{0xFFFFFFFF, 0xFFFFFFFF, 0xFFFFFFFF}, Den: []uint32{1}}
	twice, _ := rat.Add(large, large)
	gives(t, op(prim("+"), "/"), nil, vec(number(large), number(large)), one(number(twice)), 2)
	negative, _ := rat.Neg(large)
	gives(t, op(prim("+"), "/"), nil, vec(number(large), number(negative), number(frac(1, 3))), one(number(frac(1, 3))), 3)
	whole := sequence(api.MaxItems)
	gives(t, op(prim("+"), "/"), nil, nums(whole...), one(num(api.MaxItems*(api.MaxItems+1)/2)), api.MaxItems)
	for _, a := range samples() {
		if len(a.Shape) == 1 && a.Shape[0] == 1 {
			gives(t, op(user("F"), "/"), nil, a, one(a.Items[0]), 1)
		}
	}
}

func TestLastOfScanIsFold(t *testing.T) { // P9.4
	for _, f := range []api.Func{prim("+"), prim("-"), prim(","), prim("÷"), op(prim("-"), "⍨"), op(prim(","), "¨"), prim("="), prim("⍴")} {
		for _, a := range samples() {
			if len(a.Shape) == 0 || a.Shape[len(a.Shape)-1] == 0 {
				continue
			}
			scan, e := does(op(f, `\`), nil, a)
			if e != api.OK {
				continue
			}
			last := make([]int, len(a.Shape))
			for k, n := range a.Shape {
				last[k] = n
			}
			last[len(last)-1] = -1
			ends, x := does(prim("↑"), with(array.Ints(last...)), scan)
			if x != api.OK {
				t.Fatal(x)
			}
			fold, x := does(op(f, "/"), nil, a)
			want, _ := array.Make(a.Shape[:len(a.Shape)-1], ends.Items...)
			expect(t, oper.Print(f), fold, x, want, api.OK)
		}
	}
}
