package show

import (
	"slices"
	"strings"

	"glyph/api"
	"glyph/array"
	"glyph/rat"
)

// block is lines of one width; without lines it has none.
type block struct {
	lines []string
	width int
}

func (b block) height() int {
	return len(b.lines)
}

// piece is the block of an item, which stands in a column of others as its kind does.
type piece struct {
	block
	kind api.ItemKind
}

// tooGreat is what a display that is too great is given up by.
type tooGreat struct{}

// maxText is how many characters, with a line feed for each line, a block may have.
const maxText = 65536

// fit gives up a block that would be too great, ahead of its lines. (A block in it that is too great makes it so, too.)
func fit(height, width int) {
	if height > api.MaxItems || height*(width+1) > maxText {
		panic(tooGreat{})
	}
}

// drawn is the block of an array.
func drawn(a api.Array) (b block, e api.Errno) {
	if !array.Right(a) {
		return block{}, api.ErrForm
	}
	defer func() {
		switch x := recover().(type) {
		case nil:
		case tooGreat:
			b, e = block{}, api.Limit
		default:
			panic(x)
		}
	}()
	return blockOf(a), api.OK
}

// blockOf is the block of a right array.
func blockOf(a api.Array) block {
	rank := len(a.Shape)
	switch {
	case rank == 0:
		return pieceOf(a.Items[0]).block
	case slices.Contains(a.Shape, 0) && rank == 1:
		return block{lines: []string{""}}
	case slices.Contains(a.Shape, 0):
		return block{}
	case rank == 1:
		return table{columns: a.Shape[0], pieces: piecesOf(a.Items)}.block()
	}
	columns, planes := a.Shape[rank-1], a.Shape[:rank-2]
	var l []block
	for plane := range slices.Chunk(piecesOf(a.Items), a.Shape[rank-2]*columns) {
		l = append(l, table{columns, plane}.block())
	}
	return stacked(planes, l)
}

func piecesOf(items []api.Item) []piece {
	var out []piece
	for _, i := range items {
		out = append(out, pieceOf(i))
	}
	return out
}

func pieceOf(i api.Item) piece {
	switch i.Kind {
	case api.Box:
		return piece{framed(blockOf(i.Box[0])), i.Kind}
	case api.Char:
		return piece{oneLine(visible(i.Char)), i.Kind}
	}
	return piece{oneLine(rat.Print(i.Num)), i.Kind}
}

func oneLine(s string) block {
	return block{lines: []string{s}, width: Width(s)}
}

// visible is a character as it is shown.
func visible(c rune) string {
	const rubout, dot = 127, "·"
	if c < ' ' || c == rubout {
		return dot
	}
	return string(c)
}

// framed is a block with a blank on both sides of each line.
func framed(b block) block {
	if b.height() == 0 {
		return b
	}
	out := block{width: b.width + 2}
	fit(b.height(), out.width)
	for _, line := range b.lines {
		out.lines = append(out.lines, blank+line+blank)
	}
	return out
}

// stacked are matrices one below the other, as many as the lengths of the axes ahead of theirs say, with empty lines between.
func stacked(planes []int, l []block) block {
	var out block
	height := 0
	for i, b := range l {
		out.width = max(out.width, b.width)
		height += gap(planes, i) + b.height()
	}
	fit(height, out.width)
	for i, b := range l {
		for range gap(planes, i) {
			out.lines = append(out.lines, blanks(out.width))
		}
		for _, line := range b.lines {
			out.lines = append(out.lines, line+blanks(out.width-b.width))
		}
	}
	return out
}

// gap is how many empty lines stand ahead of a matrix: one, and one more for each further axis along which a new place begins.
func gap(planes []int, i int) int {
	if i == 0 {
		return 0
	}
	lines := 1
	for _, length := range slices.Backward(planes) {
		if i%length > 0 {
			break
		}
		i /= length
		lines++
	}
	return lines
}

func blanks(n int) string {
	return strings.Repeat(blank, n)
}
