package show_test

import (
	"testing"

	"glyph/api"
	"glyph/array"
	"glyph/lex"
	"glyph/pick"
	"glyph/shape"
	"glyph/show"
)

func TestLiteral(t *testing.T) { // P8.3, P3
	for _, c := range []struct {
		a    api.Array
		want string
	}{
		{one(num(5)), "5"},
		{one(number(frac(-7, 3))), "¯7r3"},
		{one(char('a')), "'a'"},
		{one(char('\'')), "''''"},
		{one(char(10)), "'\n'"},
		{one(boxed(nums(1, 2))), "⊂(1 2)"},
		{one(boxed(nums(1))), "⊂(,1)"},
		{one(boxed(one(boxed(nums(1, 2))))), "⊂(⊂(1 2))"},
		{nums(1, -2, 3), "1 ¯2 3"},
		{text("it's"), "'i' 't' '''' 's'"},
		{vec(num(1), char('a'), boxed(nums(2, 3))), "1 'a' (2 3)"},
		{vec(boxed(nums(1, 2)), boxed(text("ab"))), "(1 2) ('a' 'b')"},
		{vec(boxed(nums(1)), boxed(none(char(' '), 0))), "(,1) (0⍴' ')"},
		{vec(boxed(one(boxed(nums(1, 2)))), num(3)), "(⊂(1 2)) 3"},
		{nums(5), ",5"},
		{text("a"), ",'a'"},
		{vec(boxed(nums(1, 2))), ",⊂(1 2)"},
		{vec(boxed(vec(boxed(nums(1))))), ",⊂(,⊂(,1))"},
		{none(num(0), 0), "0⍴0"},
		{none(char(' '), 0), "0⍴' '"},
		{none(num(7), 0), "0⍴7"},
		{none(boxed(nums(0, 0)), 0), "0⍴⊂(0 0)"},
		{none(boxed(none(char(' '), 0)), 2, 0), "2 0⍴⊂(0⍴' ')"},
		{none(char(' '), 0, 3), "0 3⍴' '"},
		{counted(2, 3), "2 3⍴1 2 3 4 5 6"},
		{arr([]int{1, 1}, num(5)), "1 1⍴5"},
		{arr([]int{1, 1}, boxed(nums(1, 2))), "1 1⍴⊂(1 2)"},
		{arr([]int{2, 1}, boxed(nums(1, 2)), num(3)), "2 1⍴(1 2) 3"},
		{arr([]int{1, 2, 1}, text("ab").Items...), "1 2 1⍴'a' 'b'"},
		{vec(boxed(counted(1, 2)), num(3)), "(1 2⍴1 2) 3"},
		{counted(1, 1, 1, 1, 1, 1, 1, 1), "1 1 1 1 1 1 1 1⍴1"},
	} {
		a := roomy(c.a)
		before := snapshot(a)
		if got, e := show.Literal(a); e != api.OK || got != c.want {
			t.Errorf("%q %v, not %q", got, e, c.want)
		}
		if snapshot(a) != before {
			t.Error(c.want, "changed")
		}
	}
}

// reader reads what Literal writes: an expression is , or ⊂ and an expression, or a strand, or lengths, ⍴, and an expression.
type reader struct {
	t      *testing.T
	tokens []lex.Token
}

func (r *reader) next(texts ...string) bool {
	for _, text := range texts {
		if r.tokens[0].Text == text {
			r.tokens = r.tokens[1:]
			return true
		}
	}
	return false
}

func (r *reader) done(a api.Array, e api.Errno) api.Array {
	if e != api.OK {
		r.t.Fatal(a, e)
	}
	return a
}

func (r *reader) expression() api.Array {
	env := api.Env{IO: 1}
	if r.next(",") {
		return r.done(shape.Monadic(env, ',', r.expression()))
	}
	if r.next("⊂") {
		return r.done(pick.Monadic(env, '⊂', r.expression()))
	}
	a := r.strand()
	if r.next("⍴") {
		return r.done(shape.Dyadic(env, '⍴', a, r.expression()))
	}
	return a
}

func (r *reader) strand() api.Array {
	var l []api.Item
	for {
		if r.next("(") {
			l = append(l, array.Enclose(r.expression()))
			if !r.next(")") {
				r.t.Fatal("not closed")
			}
		} else if k := r.tokens[0].Kind; k == lex.Number || k == lex.Text {
			l = append(l, array.Enclose(r.tokens[0].Array))
			r.tokens = r.tokens[1:]
		} else {
			break
		}
	}
	if len(l) == 1 {
		return array.Open(l[0])
	}
	return r.done(array.Make([]int{len(l)}, l...))
}

// TestLiteralIsRead: what is written comes back.
func TestLiteralIsRead(t *testing.T) { // P8.3, E6
	d := dice(88172645463325252)
	l := samples()
	for range 400 {
		l = append(l, randomArray(&d, 4))
	}
	for _, a := range l {
		text, e := show.Literal(a)
		if e != api.OK {
			t.Fatal(e)
		}
		tokens, e, _ := lex.All(text)
		if e == api.ErrLong {
			continue
		}
		if e != api.OK {
			t.Fatal(text, e)
		}
		r := reader{t, tokens}
		got := r.expression()
		if sizeOf(a.Shape) == 0 {
			a = none(array.Proto(a), a.Shape...)
		}
		if !array.Match(got, a) || r.tokens[0].Kind != lex.End {
			t.Error(text, got, a)
		}
	}
}
