package array_test

import (
	"testing"

	"glyph/api"
	"glyph/array"
)

func TestItems(t *testing.T) { // P3.3, P3
	for _, a := range samples() {
		got := array.Items(a)
		empty := countItems(a.Shape) == 0
		if empty && len(got) != 0 {
			t.Error("of an empty one", a, got)
		}
		if !empty && !alike(arr(a.Shape, got...), a) {
			t.Error(a.Shape, got)
		}
		apart(t, "Items", []any{a}, got)
	}
}

func countItems(shape []int) int {
	n := 1
	for _, k := range shape {
		n *= k
	}
	return n
}

func TestEncloseAndOpen(t *testing.T) { // P3.3, P3.5, P3
	for _, a := range samples() {
		i := array.Enclose(a)
		if simple(a) && !alikeItems(i, a.Items[0]) || !simple(a) && !alikeItems(i, boxed(a)) {
			t.Error("Enclose", a, i)
		}
		apart(t, "Enclose", []any{a}, i)
		back := array.Open(i)
		expect(t, "Open of Enclose", back, a)
		apart(t, "Open", []any{i}, back)
	}
	for _, i := range []api.Item{num(-4), frac(1, 3), char('a'), char(0)} {
		expect(t, i, array.Open(i), arr(nil, i))
	}
	for _, a := range []api.Array{deep(api.MaxDepth), great(api.MaxCells), emptyText(), arr([]int{0}, num(5))} {
		expect(t, "a box", array.Open(boxed(a)), a)
	}
}

func typed(a api.Array) api.Array {
	out := arr(append([]int(nil), a.Shape...))
	for _, i := range a.Items {
		switch i.Kind {
		case api.Number:
			out.Items = append(out.Items, num(0))
		case api.Char:
			out.Items = append(out.Items, char(' '))
		case api.Box:
			out.Items = append(out.Items, boxed(typed(i.Box[0])))
		}
	}
	return out
}

func TestType(t *testing.T) { // P3.3, P3.7, P3
	for _, a := range samples() {
		got := array.Type(a)
		expect(t, "Type", got, typed(a))
		expect(t, "Type of Type", array.Type(got), got)
		apart(t, "Type", []any{a}, got)
	}
	a := vec(frac(1, 3), char('x'), boxed(vec(num(2), boxed(arr([]int{0}, char('q'))))))
	expect(t, "nested", array.Type(a), vec(num(0), char(' '), boxed(vec(num(0), boxed(emptyText())))))
	expect(t, "empty", array.Type(arr([]int{0}, num(5))), arr([]int{0}, num(0)))
}

func TestProto(t *testing.T) { // P3.3, P3
	for _, a := range samples() {
		got := array.Proto(a)
		if !alikeItems(got, typed(a).Items[0]) {
			t.Error(a, got)
		}
		apart(t, "Proto", []any{a}, got)
	}
	cases := []struct {
		a    api.Array
		want api.Item
	}{
		{nums(7, 8), num(0)}, {text('a'), char(' ')}, {vec(char('a'), num(1)), char(' ')}, {arr(nil, frac(1, 2)), num(0)}, {emptyText(), char(' ')},
		{vec(boxed(vec(num(3), char('c'))), num(1)), boxed(vec(num(0), char(' ')))}, {arr([]int{0}, num(5)), num(0)},
	}
	for _, c := range cases {
		if got := array.Proto(c.a); !alikeItems(got, c.want) {
			t.Error(c.a, got)
		}
	}
}

func TestCopy(t *testing.T) { // P3.4, P3
	for _, a := range append(samples(), arr([]int{0}, num(5))) {
		got := array.Copy(a)
		expect(t, "Copy", got, a)
		apart(t, "Copy", []any{a}, got)
	}
}

func TestWhatIsHandedInStays(t *testing.T) { // P3
	for _, a := range fewSamples() {
		full, whole := roomy(a)
		before := snapshot(full, whole)
		items := array.Items(full)
		for k := range items {
			items[k] = api.Item{}
		}
		inner := array.Copy(full)
		inner.Items = append(inner.Items, num(1))
		inner.Shape = append(inner.Shape, 1)
		array.Enclose(full)
		array.Open(boxed(full))
		array.Type(full)
		array.Proto(full)
		array.Match(full, a)
		array.ToInt(full)
		array.ToInts(full)
		array.ToText(full)
		array.Right(full)
		array.Depth(full)
		array.Cells(full)
		array.IsSimple(full)
		if snapshot(full, whole) != before {
			t.Error("changed", a)
		}
	}
}
