package pick_test

import (
	"math"
	"slices"
	"testing"

	"glyph/api"
	"glyph/array"
	"glyph/pick"
)

// at are places for each axis, each an array.
func at(l ...api.Array) [][]api.Array {
	var out [][]api.Array
	for _, a := range l {
		out = append(out, []api.Array{a})
	}
	return out
}

// roomyLists are lists of places in longer ones.
func roomyLists(l [][]api.Array) [][]api.Array {
	out := make([][]api.Array, 0, len(l)+1)
	for _, places := range l {
		more := make([]api.Array, 0, len(places)+1)
		for _, a := range places {
			more = append(more, roomy(a))
		}
		out = append(out, append(more, nums(80))[:len(places)])
	}
	return append(out, []api.Array{nums(81)})[:len(l)]
}

func snapshotLists(l [][]api.Array) string {
	out := ""
	for _, places := range l[:cap(l)] {
		for _, a := range places[:cap(places)] {
			out += snapshot(a)
		}
		out += ";"
	}
	return out
}

// taking is a case of At, with the origin 1.
type taking struct {
	a      api.Array
	places [][]api.Array
	want   api.Array
	e      api.Errno
}

func runAt(t *testing.T, cases []taking) {
	t.Helper()
	for k, c := range cases {
		a, l := roomy(c.a), roomyLists(c.places)
		before := snapshot(a) + snapshotLists(l)
		got, e := pick.At(env(1), a, l...)
		expect(t, k, got, e, c.want, c.e)
		if snapshot(a)+snapshotLists(l) != before {
			t.Error(k, "changed")
		}
		apart(t, k, got, a, l)
	}
}

func TestAt(t *testing.T) { // P7.2, P3
	v, m := nums(5, 6, 7), counted(2, 3)
	runAt(t, []taking{
		{v, at(nums(3, 1)), nums(7, 5), api.OK},
		{v, at(one(num(1))), one(num(5)), api.OK},
		{v, at(one(num(3))), one(num(7)), api.OK},
		{v, at(nums(2)), nums(6), api.OK},
		{v, at(nums(2, 2, 2, 2)), nums(6, 6, 6, 6), api.OK},
		{v, at(arr([]int{2, 2}, numItems(1, 2, 3, 1)...)), arr([]int{2, 2}, numItems(5, 6, 7, 5)...), api.OK},
		{v, [][]api.Array{nil}, v, api.OK},
		{v, [][]api.Array{{}}, v, api.OK},
		{v, at(none(num(0), 0)), none(num(0), 0), api.OK},
		{v, at(none(char(' '), 0)), none(num(0), 0), api.OK},
		{v, at(none(boxed(nums(1)), 2, 0)), none(num(0), 2, 0), api.OK},
		{text("abc"), at(none(num(0), 0)), none(char(' '), 0), api.OK},
		{vec(boxed(nums(1, 2)), num(3)), at(one(num(1))), one(boxed(nums(1, 2))), api.OK},
		{vec(boxed(text("ab")), num(3)), at(none(num(0), 0, 3)), none(boxed(text("  ")), 0, 3), api.OK},
		{m, at(one(num(2)), one(num(3))), one(num(6)), api.OK},
		{m, [][]api.Array{{one(num(2))}, nil}, nums(4, 5, 6), api.OK},
		{m, [][]api.Array{nil, {one(num(2))}}, nums(2, 5), api.OK},
		{m, [][]api.Array{nil, {nums(3, 1)}}, arr([]int{2, 2}, numItems(3, 1, 6, 4)...), api.OK},
		{m, at(nums(2, 1), arr([]int{1, 2}, numItems(3, 3)...)), arr([]int{2, 1, 2}, numItems(6, 6, 3, 3)...), api.OK},
		{m, [][]api.Array{nil, nil}, m, api.OK},
		{m, at(none(num(0), 0), one(num(3))), none(num(0), 0), api.OK},
		{one(num(5)), nil, one(num(5)), api.OK},
		{one(boxed(nums(1, 2))), [][]api.Array{}, one(boxed(nums(1, 2))), api.OK},
		{none(char(' '), 0), [][]api.Array{nil}, none(char(' '), 0), api.OK},
		{none(char('a'), 0), [][]api.Array{nil}, none(char(' '), 0), api.OK},
		{none(char(' '), 0, 3), [][]api.Array{nil, {nums(3, 3)}}, none(char(' '), 0, 2), api.OK},
		{none(num(0), 4096, 4096, 4096, 4096, 4096, 4096, 4096, 0), slices.Repeat([][]api.Array{nil}, 8), none(num(0), 4096, 4096, 4096, 4096, 4096, 4096, 4096, 0), api.OK},
		{counted(1, 1, 1, 1, 1, 1, 1, 1), slices.Repeat(at(one(num(1))), 8), one(num(1)), api.OK},
	})
}

func TestAtErrors(t *testing.T) { // P7.2, P1, P2
	v, m, letter, half := nums(5, 6, 7), counted(2, 3), one(char('1')), one(number(frac(1, 2)))
	two := [][]api.Array{{nums(1), nums(1)}}
	runAt(t, []taking{
		{v, at(one(num(0))), api.Array{}, api.Index},
		{v, at(one(num(4))), api.Array{}, api.Index},
		{v, at(nums(1, 2, 4)), api.Array{}, api.Index},
		{v, at(one(num(-1))), api.Array{}, api.Index},
		{v, at(one(num(math.MaxInt))), api.Array{}, api.Index},
		{v, at(one(num(math.MinInt))), api.Array{}, api.Index},
		{v, at(one(great(false))), api.Array{}, api.Index}, // a whole number, and no place
		{v, at(one(great(true))), api.Array{}, api.Index},
		{v, at(letter), api.Array{}, api.Domain},
		{v, at(half), api.Array{}, api.Domain},
		{v, at(vec(boxed(nums(1)))), api.Array{}, api.Domain},
		{v, at(vec(num(9), char('a'))), api.Array{}, api.Domain}, // of one list Domain is ahead
		{m, at(one(num(3)), letter), api.Array{}, api.Index},     // of two the first one
		{m, at(letter, one(num(9))), api.Array{}, api.Domain},
		{m, at(one(num(2)), one(num(4))), api.Array{}, api.Index},
		{m, [][]api.Array{nil, {one(num(0))}}, api.Array{}, api.Index},
		{m, at(none(num(0), 0), one(num(4))), api.Array{}, api.Index},
		{m, at(none(num(0), 0), letter), api.Array{}, api.Domain},
		{none(num(0), 0), at(one(num(1))), api.Array{}, api.Index},
		{none(num(0), 0, 3), at(one(num(1)), one(num(1))), api.Array{}, api.Index},
		{v, nil, api.Array{}, api.Rank},
		{v, at(letter, letter), api.Array{}, api.Rank},
		{m, at(letter), api.Array{}, api.Rank},
		{one(num(5)), at(letter), api.Array{}, api.Rank},
		{one(num(5)), [][]api.Array{nil}, api.Array{}, api.Rank},
		{v, two, api.Array{}, api.ErrForm},
		{m, two, api.Array{}, api.ErrForm}, // ahead of Rank
		{m, [][]api.Array{{letter}, {nums(1), nums(1)}}, api.Array{}, api.ErrForm},
	})
	for _, a := range wrongArrays() {
		for _, l := range [][][]api.Array{{nil}, at(one(num(1))), nil} {
			got, e := pick.At(env(1), a, l...)
			expect(t, "of what is not right", got, e, api.Array{}, api.ErrForm)
			got, e = pick.PutAt(env(1), a, v, l...)
			expect(t, "of what is not right", got, e, api.Array{}, api.ErrForm)
			got, e = pick.PutAt(env(1), v, a, l...)
			expect(t, "with what is not right", got, e, api.Array{}, api.ErrForm)
		}
		got, e := pick.At(env(1), m, []api.Array{letter}, []api.Array{a})
		expect(t, "at what is not right", got, e, api.Array{}, api.ErrForm)
		got, e = pick.PutAt(env(1), v, v, nil, []api.Array{a})
		expect(t, "at what is not right", got, e, api.Array{}, api.ErrForm)
	}
	for _, io := range wrongOrigins() {
		got, e := pick.At(env(io), v, nil)
		expect(t, io, got, e, api.Array{}, api.ErrForm)
		got, e = pick.PutAt(env(io), v, v, nil)
		expect(t, io, got, e, api.Array{}, api.ErrForm)
	}
}

func TestAtLimits(t *testing.T) { // P7.2, P5
	v := counted(2)
	ones := func(shape ...int) api.Array {
		return arr(shape, slices.Repeat(numItems(1), sizeOf(shape))...)
	}
	runAt(t, []taking{
		{v, at(ones(1, 1, 1, 1, 1, 1, 1, 1)), counted(1, 1, 1, 1, 1, 1, 1, 1), api.OK},
		{counted(2, 2), at(ones(1, 1, 1, 1), ones(1, 1, 1, 1)), counted(1, 1, 1, 1, 1, 1, 1, 1), api.OK},
		{counted(2, 2), at(ones(1, 1, 1, 1), ones(1, 1, 1, 1, 1)), api.Array{}, api.Rank},
		{counted(2, 2), at(arr([]int{1, 1, 1, 1}, char('a')), ones(1, 1, 1, 1, 1)), api.Array{}, api.Rank},
		{counted(2, 2), at(none(num(0), 0, 1, 1, 1), ones(1, 1, 1, 1, 1)), api.Array{}, api.Rank},
		{v, at(ones(4096)), ones(4096), api.OK},
		{counted(2, 2), at(ones(64), ones(64)), ones(64, 64), api.OK},
		{counted(2, 2), at(ones(64), ones(65)), api.Array{}, api.Limit},
		{counted(2, 2), at(ones(4096), nums(1, 3)), api.Array{}, api.Index}, // ahead of Limit
		{counted(2, 2), at(ones(4096), vec(num(1), char('a'))), api.Array{}, api.Domain},
		{counted(2, 2), at(ones(4096), ones(4096)), api.Array{}, api.Limit},
		{counted(2, 2), at(ones(4096), none(num(0), 0)), none(num(0), 4096, 0), api.OK},
		{full(1, 4095), at(ones(4)), full(4, 4095), api.OK},
		{full(1, 4095), at(ones(5)), api.Array{}, api.Limit},
		{full(3, 4095), at(ones(4096)), api.Array{}, api.Limit},
	})
}

// TestAtEachPlace holds each item against that of its own indices.
func TestAtEachPlace(t *testing.T) { // P7.2, P7.6
	d := dice(362436069)
	for _, a := range samples() {
		for range 4 {
			io := d.next(2)
			l, shape, empty := [][]api.Array{}, []int{}, sizeOf(a.Shape) == 0
			var ranks []int
			for _, length := range a.Shape {
				places := randomPlaces(&d, io, length)
				l = append(l, places)
				own := []int{length}
				if len(places) == 1 {
					own = places[0].Shape
				}
				shape, ranks = append(shape, own...), append(ranks, len(own))
			}
			if len(shape) > api.MaxRank {
				continue
			}
			got, e := pick.At(env(io), a, l...)
			want := none(array.Proto(a), shape...)
			if !empty {
				want = built(shape, array.Proto(a), func(index []int) api.Item {
					var own []int
					for k, places := range l {
						inner := index[:ranks[k]]
						index = index[ranks[k]:]
						if len(places) == 0 {
							own = append(own, inner[0])
							continue
						}
						n, _ := array.ToInt(array.Open(itemAt(places[0], inner)))
						own = append(own, n-io)
					}
					return itemAt(a, own)
				})
			}
			expect(t, a, got, e, want, api.OK)
		}
	}
}

// randomPlaces are some along an axis: all, or an array of up to two axes.
func randomPlaces(d *dice, io, length int) []api.Array {
	if d.next(3) == 0 {
		return nil
	}
	var shape []int
	for range d.next(3) {
		shape = append(shape, d.next(4))
	}
	if length == 0 {
		return []api.Array{none(num(0), 0)}
	}
	return []api.Array{built(shape, num(0), func([]int) api.Item { return num(io + d.next(length)) })}
}

func TestAtAllPlacesOfAVector(t *testing.T) { // P7.6, E7
	for _, a := range vectors() {
		for _, io := range []int{0, 1} {
			places, e := pick.Monadic(env(io), '⍳', one(num(a.Shape[0])))
			if e != api.OK {
				t.Fatal(e)
			}
			got, e := pick.At(env(io), a, []api.Array{places})
			want := a
			if a.Shape[0] == 0 {
				want = none(array.Proto(a), 0)
			}
			expect(t, a, got, e, want, api.OK)
		}
	}
}

// putting is a case of PutAt, with the origin 1.
type putting struct {
	a, b   api.Array
	places [][]api.Array
	want   api.Array
	e      api.Errno
}

func runPutAt(t *testing.T, cases []putting) {
	t.Helper()
	for k, c := range cases {
		a, b, l := roomy(c.a), roomy(c.b), roomyLists(c.places)
		before := snapshot(a) + snapshot(b) + snapshotLists(l)
		got, e := pick.PutAt(env(1), a, b, l...)
		expect(t, k, got, e, c.want, c.e)
		if snapshot(a)+snapshot(b)+snapshotLists(l) != before {
			t.Error(k, "changed")
		}
		apart(t, k, got, a, b, l)
	}
}

func TestPutAt(t *testing.T) { // P7.2, P3
	v, m := nums(5, 6, 7), counted(2, 3)
	runPutAt(t, []putting{
		{v, one(num(0)), at(one(num(2))), nums(5, 0, 7), api.OK},
		{v, nums(8, 9), at(nums(3, 1)), nums(9, 6, 8), api.OK},
		{v, one(num(0)), at(nums(3, 1)), nums(0, 6, 0), api.OK},
		{v, nums(1, 2, 3), at(nums(2, 2, 2)), nums(5, 3, 7), api.OK}, // of one place twice the later one
		{v, nums(1, 2, 3), [][]api.Array{nil}, nums(1, 2, 3), api.OK},
		{v, arr([]int{1, 1}, char('a')), at(nums(3, 1)), vec(char('a'), num(6), char('a')), api.OK},
		{v, one(boxed(nums(1, 2))), at(one(num(1))), vec(boxed(nums(1, 2)), num(6), num(7)), api.OK},
		{v, vec(boxed(nums(1, 2)), char('a')), at(nums(1, 2)), vec(boxed(nums(1, 2)), char('a'), num(7)), api.OK},
		{v, arr([]int{1, 2, 1}, num(8), num(9)), at(arr([]int{2, 1}, num(1), num(3))), nums(8, 6, 9), api.OK},
		{m, nums(7, 8, 9), [][]api.Array{{one(num(2))}, nil}, arr([]int{2, 3}, numItems(1, 2, 3, 7, 8, 9)...), api.OK},
		{m, nums(7, 8), [][]api.Array{nil, {one(num(2))}}, arr([]int{2, 3}, numItems(1, 7, 3, 4, 8, 6)...), api.OK},
		{m, nums(7, 8, 9), [][]api.Array{{nums(1)}, nil}, arr([]int{2, 3}, numItems(7, 8, 9, 4, 5, 6)...), api.OK},
		{m, arr([]int{1, 3}, numItems(7, 8, 9)...), [][]api.Array{{one(num(1))}, nil}, arr([]int{2, 3}, numItems(7, 8, 9, 4, 5, 6)...), api.OK},
		{m, counted(2, 2), at(nums(2, 1), nums(1, 3)), arr([]int{2, 3}, numItems(3, 2, 4, 1, 5, 2)...), api.OK},
		{m, one(num(0)), [][]api.Array{nil, nil}, arr([]int{2, 3}, numItems(0, 0, 0, 0, 0, 0)...), api.OK},
		{one(num(5)), one(num(6)), nil, one(num(6)), api.OK},
		{one(num(5)), nums(6), nil, one(num(6)), api.OK},
		{one(num(5)), one(boxed(nums(6))), nil, one(boxed(nums(6))), api.OK},
		{v, one(num(0)), at(none(num(0), 0)), v, api.OK},
		{v, none(char(' '), 0), at(none(num(0), 0)), v, api.OK},
		{v, none(char(' '), 1, 0), at(none(num(0), 0)), v, api.OK},
		{none(char('a'), 0), one(num(0)), [][]api.Array{nil}, none(char('a'), 0), api.OK},
		{none(char(' '), 0, 3), none(num(0), 0, 3), [][]api.Array{nil, nil}, none(char(' '), 0, 3), api.OK},
	})
}

func TestPutAtErrors(t *testing.T) { // P7.2, P1, P2, P5
	v, m, letter := nums(5, 6, 7), counted(2, 3), one(char('1'))
	ones := nums(slices.Repeat([]int{1}, 4096)...)
	heavy := full(3, 4095) // 12288 cells
	runPutAt(t, []putting{
		{v, nums(1, 2), at(one(num(2))), api.Array{}, api.Rank},
		{v, nums(1, 2), at(nums(2)), api.Array{}, api.Rank},
		{v, counted(2, 2), at(nums(2, 1)), api.Array{}, api.Rank},
		{v, none(num(0), 0), at(one(num(1))), api.Array{}, api.Rank},
		{v, nums(1, 2), at(nums(2, 1, 1)), api.Array{}, api.Length},
		{v, none(num(0), 0), at(nums(2, 1)), api.Array{}, api.Length},
		{v, nums(1, 2), at(none(num(0), 0)), api.Array{}, api.Length},
		{m, counted(3, 2), [][]api.Array{nil, nil}, api.Array{}, api.Length},
		{m, nums(1, 2), [][]api.Array{nil, nil}, api.Array{}, api.Rank},
		{m, nums(1, 2), [][]api.Array{{one(num(1))}, nil}, api.Array{}, api.Length},
		{v, nums(1, 2), at(one(num(4))), api.Array{}, api.Index}, // the errors of places go ahead
		{v, nums(1, 2), at(letter), api.Array{}, api.Domain},
		{m, one(num(0)), at(one(num(3)), letter), api.Array{}, api.Index},
		{m, one(num(0)), at(letter), api.Array{}, api.Rank},
		{v, one(num(0)), nil, api.Array{}, api.Rank},
		{one(num(5)), one(num(6)), at(one(num(1))), api.Array{}, api.Rank},
		{v, one(num(0)), [][]api.Array{{nums(1), nums(1)}}, api.Array{}, api.ErrForm},
		{m, one(num(0)), at(ones, ones), api.Array{}, api.Limit},
		{m, nums(1, 2), at(ones, ones), api.Array{}, api.Limit},
		{m, one(num(0)), at(ones, nums(1)), arr([]int{2, 3}, numItems(0, 2, 3, 4, 5, 6)...), api.OK},
		{heavy, one(num(0)), at(nums(1, 1, 1, 1, 1)), api.Array{}, api.Limit}, // what At would tell is too great
		{heavy, one(num(0)), at(nums(1, 1, 1, 1)), vec(num(0), heavy.Items[1], heavy.Items[2]), api.OK},
		{v, one(boxed(deep(api.MaxDepth - 1))), at(one(num(1))), vec(boxed(deep(api.MaxDepth-1)), num(6), num(7)), api.OK},
		{vec(boxed(nums(1)), num(2)), deep(api.MaxDepth), at(one(num(2))), vec(boxed(nums(1)), boxed(deep(api.MaxDepth-1))), api.OK},
		{nums(slices.Repeat([]int{1}, 4)...), one(heavy.Items[0]), [][]api.Array{nil}, full(4, 4095), api.OK},
		{nums(slices.Repeat([]int{1}, 5)...), one(heavy.Items[0]), [][]api.Array{nil}, api.Array{}, api.Limit},
		{nums(slices.Repeat([]int{1}, 4096)...), one(heavy.Items[0]), [][]api.Array{nil}, api.Array{}, api.Limit},
	})
}

func TestPlacesFromOrigin(t *testing.T) { // P7.2
	v := nums(5, 6, 7)
	for _, io := range []int{0, 1} {
		got, e := pick.PutAt(env(io), v, one(num(0)), at(one(num(io)))...)
		expect(t, io, got, e, nums(0, 6, 7), api.OK)
		got, e = pick.PutAt(env(io), v, one(num(0)), at(one(num(io+2)))...)
		expect(t, io, got, e, nums(5, 6, 0), api.OK)
		got, e = pick.At(env(io), v, at(nums(io, io+2))...)
		expect(t, io, got, e, nums(5, 7), api.OK)
		for _, n := range []int{io - 1, io + 3} {
			got, e = pick.PutAt(env(io), v, one(num(0)), at(one(num(n)))...)
			expect(t, io, got, e, api.Array{}, api.Index)
			got, e = pick.At(env(io), v, at(one(num(n)))...)
			expect(t, io, got, e, api.Array{}, api.Index)
		}
	}
}

// TestPutAndTaken goes on places without a repetition.
func TestPutAndTaken(t *testing.T) { // P7.8, E7
	d := dice(521288629)
	for _, a := range samples() {
		for range 4 {
			io := d.next(2)
			var l [][]api.Array
			for _, length := range a.Shape {
				l = append(l, []api.Array{shuffled(&d, io, length)})
			}
			there, e := pick.At(env(io), a, l...)
			if e != api.OK {
				t.Fatal(e)
			}
			b := built(there.Shape, num(0), func([]int) api.Item { return randomItem(&d, 2) })
			put, e := pick.PutAt(env(io), a, b, l...)
			if e != api.OK {
				t.Fatal(e)
			}
			got, e := pick.At(env(io), put, l...)
			if sizeOf(there.Shape) == 0 {
				b = there
			}
			expect(t, a, got, e, b, api.OK)
			if !slices.Equal(put.Shape, a.Shape) {
				t.Error("another shape", put, a)
			}
			rest, e := pick.PutAt(env(io), put, there, l...)
			expect(t, "put back", rest, e, a, api.OK)
		}
	}
}

// shuffled are some places along an axis, each once.
func shuffled(d *dice, io, length int) api.Array {
	l := sequence(length)
	for i := range l {
		j := i + d.next(length-i)
		l[i], l[j] = l[j], l[i]
	}
	for i := range l {
		l[i] += io - 1
	}
	l = l[:d.next(length+1)]
	if len(l) == 0 {
		return none(num(0), 0)
	}
	return nums(l...)
}
