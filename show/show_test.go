package show_test

import (
	"math"
	"slices"
	"strings"
	"testing"

	"glyph/api"
	"glyph/array"
	"glyph/lex"
	"glyph/rat"
	"glyph/show"
)

// shown is an array and the lines of its block, with the blanks at their ends.
type shown struct {
	a     api.Array
	block []string
}

func cases() []shown {
	noText, noRows := none(char(' '), 0), none(num(0), 0, 3)
	nested := vec(num(1), boxed(vec(num(2), boxed(vec(num(3), boxed(nums(4, 5)))))))
	tall := boxed(counted(2, 2))
	return []shown{
		// scalars
		{one(num(5)), []string{"5"}},
		{one(number(frac(-7, 3))), []string{"¯7r3"}},
		{one(char('a')), []string{"a"}},
		{one(char(' ')), []string{" "}},
		{one(boxed(nums(1, 2))), []string{" 1 2 "}},
		{one(boxed(one(boxed(nums(1, 2))))), []string{"  1 2  "}},
		{one(boxed(noText)), []string{"  "}},
		// vectors
		{nums(1, 20, 3), []string{"1 20 3"}},
		{nums(7), []string{"7"}},
		{vec(num(-1), number(frac(1, 2)), num(0)), []string{"¯1 1r2 0"}},
		{text("abc"), []string{"abc"}},
		{text("ab  "), []string{"ab  "}},
		{vec(char('a'), num(1), char('b'), char('c'), num(2), num(3)), []string{"a 1 bc 2 3"}},
		{vec(char(0), char(9), char(10), char(31), char(32), char(126), char(127), char(128), char(160), char(0x10FFFF)), []string{"···· ~·\u0080\u00a0\U0010FFFF"}},
		{vec(boxed(nums(1, 2)), boxed(text("ab"))), []string{" 1 2   ab "}},
		{vec(char('x'), boxed(text("ab")), char('y'), char('z')), []string{"x  ab  yz"}},
		{vec(boxed(text("a")), boxed(text("b"))), []string{" a   b "}},
		{nested, []string{"1  2  3  4 5   "}},
		{vec(num(5), tall, char('a')), []string{"5  1 2  a", "   3 4   "}},
		{vec(tall, boxed(nums(9))), []string{" 1 2   9 ", " 3 4     "}},
		{vec(boxed(arr([]int{2, 1}, numItems(1, 100)...)), num(7)), []string{"   1  7", " 100   "}},
		{vec(boxed(noText), num(1)), []string{"   1"}},
		{vec(char('a'), boxed(noText), char('b')), []string{"a    b"}},
		// matrices
		{arr([]int{2, 2}, numItems(1, 20, 3, 4)...), []string{"1 20", "3  4"}},
		{arr([]int{2, 3}, text("abcdef").Items...), []string{"abc", "def"}},
		{arr([]int{2, 2}, char('a'), num(10), num(-5), char('b')), []string{"a  10", "¯5 b "}},
		{arr([]int{2, 3}, char('a'), char('b'), num(1), char('c'), char('d'), num(22)), []string{"ab  1", "cd 22"}},
		{arr([]int{2, 3}, char('a'), char('b'), char('x'), char('c'), char('d'), num(22)), []string{"ab x ", "cd 22"}},
		{arr([]int{2, 2}, tall, num(5), char('a'), boxed(nums(6, 7))), []string{" 1 2      5", " 3 4       ", "a      6 7 "}},
		{arr([]int{3, 1}, num(1), boxed(nums(2)), num(333)), []string{"  1", " 2 ", "333"}},
		{arr([]int{2, 1}, boxed(noText), num(1)), []string{"  ", " 1"}},
		{arr([]int{1, 3}, numItems(1, 2, 3)...), []string{"1 2 3"}},
		// more axes
		{counted(2, 2, 2), []string{"1 2", "3 4", "   ", "5 6", "7 8"}},
		{counted(3, 1, 4), []string{"1 2 3 4   ", "          ", "5 6 7 8   ", "          ", "9 10 11 12"}},
		{counted(2, 2, 1, 1), []string{"1", " ", "2", " ", " ", "3", " ", "4"}},
		{counted(2, 1, 1, 1), []string{"1", " ", " ", "2"}},
		{counted(2, 1, 2, 1, 1), []string{"1", " ", "2", " ", " ", " ", "3", " ", "4"}},
		{counted(1, 1, 1, 1, 1, 1, 1, 1), []string{"1"}},
		{counted(2, 1, 1, 1, 1, 1, 1, 1), []string{"1", " ", " ", " ", " ", " ", " ", "2"}},
		{arr([]int{2, 1, 2}, char('a'), char('b'), num(10), char('c')), []string{"ab  ", "    ", "10 c"}},
		{one(boxed(counted(2, 1, 1))), []string{" 1 ", "   ", " 2 "}},
		// empty ones
		{none(num(0), 0), []string{""}},
		{noText, []string{""}},
		{none(boxed(nums(0, 0)), 0), []string{""}},
		{noRows, nil},
		{none(char(' '), 3, 0), nil},
		{none(num(0), 4096, 4096, 0, 4096, 4096, 4096, 4096, 4096), nil},
		{one(boxed(noRows)), nil},
		{vec(boxed(noRows)), nil},
		{vec(num(5), boxed(noRows), num(6)), []string{"5  6"}},
		{arr([]int{2, 1}, boxed(noRows), num(6)), []string{"6"}},
	}
}

// trimmed are lines without blanks at their ends.
func trimmed(l []string) []string {
	var out []string
	for _, line := range l {
		for strings.HasSuffix(line, " ") {
			line = line[:len(line)-1]
		}
		out = append(out, line)
	}
	return out
}

func TestLines(t *testing.T) { // P8.1, P8.4, P3
	for k, c := range cases() {
		a := roomy(c.a)
		before := snapshot(a)
		got, e := show.Lines(a)
		if e != api.OK || !slices.Equal(got, trimmed(c.block)) {
			t.Errorf("%d: %q %v", k, got, e)
		}
		if snapshot(a) != before {
			t.Error(k, "changed")
		}
	}
}

func TestText(t *testing.T) { // P8.1, P2
	all, whole := []api.Array{}, ""
	for k, c := range cases() {
		want := ""
		for _, line := range trimmed(c.block) {
			want += line + "\n"
		}
		if got, e := show.Text(c.a); e != api.OK || got != want {
			t.Errorf("%d: %q %v", k, got, e)
		}
		all, whole = append(all, c.a), whole+want
	}
	if got, e := show.Text(all...); e != api.OK || got != whole {
		t.Errorf("%q %v", got, e)
	}
	if got, e := show.Text(); e != api.OK || got != "" {
		t.Errorf("%q %v", got, e)
	}
	great := counted(4096, 1, 1)
	for _, c := range []struct {
		l []api.Array
		e api.Errno
	}{
		{[]api.Array{nums(1), great, {}}, api.Limit}, {[]api.Array{nums(1), {}, great}, api.ErrForm}, {[]api.Array{great}, api.Limit},
	} {
		if got, e := show.Text(c.l...); e != c.e || got != "" {
			t.Errorf("%q %v", got, e)
		}
	}
}

func TestWrong(t *testing.T) { // P8.1, P8.2, P8.3, P1, P2
	for _, a := range wrongArrays() {
		if got, e := show.Lines(a); e != api.ErrForm || got != nil {
			t.Error(got, e)
		}
		if got, e := show.Text(nums(1), a); e != api.ErrForm || got != "" {
			t.Error(got, e)
		}
		got, e := show.Format(a)
		expect(t, "format", got, e, api.Array{}, api.ErrForm)
		if got, e := show.Literal(a); e != api.ErrForm || got != "" {
			t.Error(got, e)
		}
	}
}

func TestWidth(t *testing.T) { // P8.1
	for s, want := range map[string]int{
		"": 0, "a": 1, "¯1r2": 4, "⍋⍒": 2, "\U0010FFFF": 1, "a\x00\n": 3, "\uFFFD": 1, "\xff": 1, "\xff\xfe": 2, "a\xe2\x8d": 3, "\xed\xa0\x80": 3, "\xf4\x90\x80\x80": 4, "\xc0\x80": 2, "\xe2\x8d\x8b\xff": 2,
	} {
		if got := show.Width(s); got != want {
			t.Errorf("%q %d", s, got)
		}
	}
}

// formatted is what Format makes of an array with such a block.
func formatted(c shown) api.Array {
	if !slices.ContainsFunc(c.a.Items, func(i api.Item) bool { return i.Kind != api.Char }) {
		return c.a
	}
	width := 0
	for _, line := range c.block {
		width = show.Width(line)
	}
	shape := []int{len(c.block), width}
	if len(c.a.Shape) < 2 && len(c.block) == 1 {
		shape = []int{width}
	}
	if sizeOf(shape) == 0 {
		return none(char(' '), shape...)
	}
	return arr(shape, text(strings.Join(c.block, "")).Items...)
}

func TestFormat(t *testing.T) { // P8.2, P8.4, P3
	for k, c := range cases() {
		a := roomy(c.a)
		before := snapshot(a)
		got, e := show.Format(a)
		expect(t, k, got, e, formatted(c), api.OK)
		if snapshot(a) != before {
			t.Error(k, "changed")
		}
		apart(t, k, got, a)
	}
	for k, c := range []struct{ a, want api.Array }{
		{one(number(frac(1, 3))), text("1r3")},
		{one(num(5)), text("5")},
		{one(char('5')), one(char('5'))},
		{vec(char(10), char(127)), vec(char(10), char(127))},
		{vec(char(10), num(1)), text("· 1")},
		{none(num(0), 0), none(char(' '), 0)},
		{none(num(0), 0, 3), none(char(' '), 0, 0)},
		{none(char(' '), 0, 3), none(char(' '), 0, 3)},
		{none(char('a'), 0), none(char('a'), 0)},
		{none(boxed(text("a")), 0), none(char(' '), 0)},
		{arr([]int{1, 2}, numItems(1, 2)...), arr([]int{1, 3}, text("1 2").Items...)},
		{vec(boxed(nums(1)), boxed(text("a"))), text(" 1   a ")},
		{vec(boxed(arr([]int{2, 1}, text("ab").Items...))), arr([]int{2, 3}, text(" a  b ").Items...)},
		{counted(4096, 1, 1), api.Array{}},
		{arr([]int{4096, 1, 1}, text(strings.Repeat("a", 4096)).Items...), arr([]int{4096, 1, 1}, text(strings.Repeat("a", 4096)).Items...)},
	} {
		got, e := show.Format(c.a)
		if len(c.want.Items) == 0 {
			expect(t, k, got, e, c.want, api.Limit)
		} else {
			expect(t, k, got, e, c.want, api.OK)
		}
	}
}

// wide is a number of so many digits.
func wide(digits int) api.Item {
	x, _ := rat.Parse("1" + strings.Repeat("0", digits-1))
	return number(x)
}

// row are items that are so wide together, with blanks between: a multiple of 32.
func row(width int) []api.Item {
	return append(slices.Repeat([]api.Item{wide(31)}, width/32-1), wide(32))
}

func rows(n, width int) api.Array {
	return arr([]int{n, width / 32}, slices.Repeat(row(width), n)...)
}

func TestFormatLimits(t *testing.T) { // P8.2, P5
	most := vec(row(4096)...)
	for k, c := range []struct {
		a     api.Array
		shape []int
		e     api.Errno
	}{
		{most, []int{4096}, api.OK},
		{vec(append(row(4096), char('a'))...), nil, api.Limit},
		{one(boxed(vec(row(4096)...))), nil, api.Limit},
		{rows(16, 256), []int{16, 256}, api.OK},
		{rows(16, 288), nil, api.Limit},
		{arr([]int{4096, 1}, numItems(slices.Repeat([]int{1}, 4096)...)...), []int{4096, 1}, api.OK},
		{arr([]int{4096, 1}, numItems(append(slices.Repeat([]int{1}, 4095), 10)...)...), nil, api.Limit},
		{arr([]int{2048, 1}, numItems(append(slices.Repeat([]int{1}, 2047), 10)...)...), []int{2048, 2}, api.OK},
	} {
		got, e := show.Format(c.a)
		if e != c.e || !slices.Equal(got.Shape, c.shape) || len(got.Items) != sizeOf(append([]int{min(len(c.shape), 1)}, c.shape...)) {
			t.Error(k, got.Shape, len(got.Items), e)
		}
	}
}

func TestLinesLimits(t *testing.T) { // P8.1, P5
	numbers := func(n int) []api.Item { return numItems(slices.Repeat([]int{1}, n)...) }
	lines := func(n int) api.Array { return arr([]int{n, 1}, numbers(n)...) }
	// A column of boxes: each is so high.
	boxes := func(n, high int) api.Array {
		return arr([]int{n, 1}, slices.Repeat([]api.Item{boxed(lines(high))}, n)...)
	}
	for k, c := range []struct {
		a api.Array
		n int // how many lines; below 0: too many
	}{
		{lines(4096), 4096},
		{counted(2048, 1, 1), 4095},
		{arr([]int{2049, 1, 1}, numbers(2049)...), -1}, // 2049 lines with 2048 between
		{boxes(2, 2048), 4096},
		{boxes(1, 4096), 4096},
		{vec(num(1), boxed(lines(4096))), 4096},
		{arr([]int{3, 1}, boxed(lines(2048)), boxed(lines(2047)), num(1)), 4096},
		{arr([]int{3, 1}, boxed(lines(2048)), boxed(lines(2048)), num(1)), -1},
		// 1 line of 65535 characters, and one more
		{vec(append(row(65504), wide(30))...), 1},
		{vec(append(row(65504), wide(31))...), -1},
		{vec(append(row(65504), text(strings.Repeat("a", 30)).Items...)...), 1},
		{vec(append(row(65504), text(strings.Repeat("a", 31)).Items...)...), -1},
		{one(boxed(vec(append(row(65504), wide(28))...))), 1}, // the frame counts
		{one(boxed(vec(append(row(65504), wide(29))...))), -1},
		// many lines: each with a line feed
		{arr([]int{4096, 1}, append(numbers(4095), wide(15))...), 4096},
		{arr([]int{4096, 1}, append(numbers(4095), wide(16))...), -1},
		{arr([]int{2048, 1}, append(numbers(2047), wide(31))...), 2048},
		{arr([]int{2048, 1}, append(numbers(2047), wide(32))...), -1},
		{arr([]int{4095, 1}, append(numbers(4094), wide(15))...), 4095},
		{arr([]int{4095, 1}, append(numbers(4094), wide(16))...), -1}, // 4095 by 17; without line feeds it would do
		{rows(256, 256), -1}, {rows(255, 256), 255},
		// too great within
		{vec(num(1), boxed(vec(num(1), boxed(counted(2049, 1, 1))))), -1},
	} {
		got, e := show.Lines(c.a)
		if c.n < 0 && (e != api.Limit || got != nil) || c.n >= 0 && (e != api.OK || len(got) != c.n) {
			t.Error(k, len(got), e)
		}
		if text, e := show.Text(c.a); c.n < 0 && (e != api.Limit || text != "") || c.n >= 0 && (e != api.OK || strings.Count(text, "\n") != c.n) {
			t.Error(k, "text", e)
		}
		if _, e := show.Format(c.a); c.n < 0 && e != api.Limit {
			t.Error(k, "format", e)
		}
	}
}

// grid is a display in the making: what is painted nowhere is blank.
type grid [][]rune

func (g grid) width() int {
	if len(g) == 0 {
		return 0
	}
	return len(g[0])
}

func blankGrid(height, width int) grid {
	out := make(grid, height)
	for y := range out {
		out[y] = slices.Repeat([]rune{' '}, width)
	}
	return out
}

func (g grid) paint(x, y int, other grid) {
	for k, line := range other {
		copy(g[y+k][x:], line)
	}
}

// paintedItem is an item's block as the document says it.
func paintedItem(i api.Item) grid {
	switch i.Kind {
	case api.Number:
		return grid{[]rune(rat.Print(i.Num))}
	case api.Char:
		if i.Char < 32 || i.Char == 127 {
			return grid{{'·'}}
		}
		return grid{{i.Char}}
	}
	inner := painted(i.Box[0])
	if len(inner) == 0 {
		return nil
	}
	out := blankGrid(len(inner), inner.width()+2)
	out.paint(1, 0, inner)
	return out
}

// painted is an array's block: each item is painted where it stands.
func painted(a api.Array) grid {
	switch {
	case len(a.Shape) == 0:
		return paintedItem(a.Items[0])
	case sizeOf(a.Shape) == 0 && len(a.Shape) == 1:
		return grid{{}}
	case sizeOf(a.Shape) == 0:
		return nil
	case len(a.Shape) == 1:
		return paintedMatrix(1, a.Shape[0], a.Items)
	case len(a.Shape) == 2:
		return paintedMatrix(a.Shape[0], a.Shape[1], a.Items)
	}
	var parts []grid
	height, width, between := 0, 0, len(a.Shape)-2
	for k := range a.Shape[0] {
		each := len(a.Items) / a.Shape[0]
		part := painted(arr(a.Shape[1:], a.Items[k*each:(k+1)*each]...))
		parts = append(parts, part)
		height, width = height+len(part)+between, max(width, part.width())
	}
	out := blankGrid(height-between, width)
	y := 0
	for _, part := range parts {
		out.paint(0, y, part)
		y += len(part) + between
	}
	return out
}

func paintedMatrix(rows, columns int, items []api.Item) grid {
	wide, high, letters := make([]int, columns), make([]int, rows), make([]bool, columns)
	for k, i := range items {
		g := paintedItem(i)
		wide[k%columns] = max(wide[k%columns], g.width())
		high[k/columns] = max(high[k/columns], len(g))
		letters[k%columns] = (k < columns || letters[k%columns]) && i.Kind == api.Char
	}
	left, x := make([]int, columns), 0
	for k := range columns {
		if k > 0 && (!letters[k-1] || !letters[k]) {
			x++
		}
		left[k] = x
		x += wide[k]
	}
	top, y := make([]int, rows), 0
	for k := range rows {
		top[k] = y
		y += high[k]
	}
	out := blankGrid(y, x)
	for k, i := range items {
		g, from := paintedItem(i), left[k%columns]
		if i.Kind == api.Number {
			from += wide[k%columns] - g.width()
		}
		out.paint(from, top[k/columns], g)
	}
	return out
}

func TestPainted(t *testing.T) { // P8.1, P8.2, P8.4
	d := dice(2463534242)
	l := samples()
	for range 400 {
		a := randomArray(&d, 4)
		if d.next(3) == 0 && sizeOf(a.Shape) > 0 {
			a.Shape = append([]int{1 + d.next(3)}, a.Shape...)
			a.Items = slices.Repeat(a.Items, a.Shape[0])
		}
		l = append(l, a)
	}
	for _, a := range l {
		g := painted(a)
		var block []string
		for _, line := range g {
			block = append(block, string(line))
		}
		got, e := show.Lines(a)
		if e != api.OK || !slices.Equal(got, trimmed(block)) {
			t.Errorf("%v: %q %v, not %q", a, got, e, block)
		}
		for _, line := range got {
			if strings.HasSuffix(line, " ") {
				t.Errorf("%q", got)
			}
		}
		whole, e := show.Format(a)
		if sizeOf([]int{len(g), g.width()}) > api.MaxItems {
			expect(t, a, whole, e, api.Array{}, api.Limit)
			continue
		}
		expect(t, a, whole, e, formatted(shown{a, block}), api.OK)
	}
}

// TestNumbersAreShownAndRead goes through lex: what is shown is its numbers.
func TestNumbersAreShownAndRead(t *testing.T) { // P8.5, E6
	d := dice(123456789)
	for n := 1; n < 60; n++ {
		var l []api.Item
		var texts []string
		for range n {
			x := frac(d.next(2000)-1000, uint32(1+d.next(12)))
			if d.next(8) == 0 {
				x, _ = rat.Power(x, rat.OfInt(5))
			}
			l, texts = append(l, number(x)), append(texts, rat.Print(x))
		}
		lines, e := show.Lines(vec(l...))
		if e != api.OK || len(lines) != 1 || lines[0] != strings.Join(texts, " ") {
			t.Fatal(lines, e)
		}
		if len(lines[0]) > api.MaxLine {
			continue
		}
		tokens, e, _ := lex.All(lines[0])
		if e != api.OK || len(tokens) != n+1 {
			t.Fatal(lines[0], e)
		}
		for k, i := range l {
			if !array.Match(tokens[k].Array, one(i)) {
				t.Error(lines[0], tokens[k])
			}
		}
	}
	for _, n := range []int{0, -1, math.MaxInt, math.MinInt} {
		if lines, e := show.Lines(nums(n, n)); e != api.OK || lines[0] != rat.Print(rat.OfInt(n))+" "+rat.Print(rat.OfInt(n)) {
			t.Error(lines, e)
		}
	}
}
