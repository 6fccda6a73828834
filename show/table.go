package show

import (
	"slices"
	"strings"

	"glyph/api"
)

// table is pieces in rows of so many columns.
type table struct {
	columns int
	pieces  []piece
}

// column is how wide a column is, and how many blanks stand ahead of it.
type column struct {
	width, ahead int
}

// block is the rows, one below the other.
func (t table) block() block {
	var out block
	layout := t.layout()
	for _, c := range layout {
		out.width += c.ahead + c.width
	}
	height := 0
	for row := range slices.Chunk(t.pieces, t.columns) {
		height += heightOf(row)
	}
	if height == 0 {
		return block{}
	}
	fit(height, out.width)
	for row := range slices.Chunk(t.pieces, t.columns) {
		for k := range heightOf(row) {
			out.lines = append(out.lines, lineOf(layout, row, k))
		}
	}
	return out
}

// layout is how the columns stand: each as wide as its widest piece, and between two that are characters alone no blank.
func (t table) layout() []column {
	out := make([]column, t.columns)
	letters := slices.Repeat([]bool{true}, t.columns)
	for i, p := range t.pieces {
		k := i % t.columns
		out[k].width = max(out[k].width, p.width)
		letters[k] = letters[k] && p.kind == api.Char
	}
	for k := range out {
		if k > 0 && !(letters[k-1] && letters[k]) {
			out[k].ahead = 1
		}
	}
	return out
}

func heightOf(row []piece) int {
	height := 0
	for _, p := range row {
		height = max(height, p.height())
	}
	return height
}

// lineOf is the line k of a row.
func lineOf(layout []column, row []piece, k int) string {
	var out strings.Builder
	for i, p := range row {
		out.WriteString(blanks(layout[i].ahead) + p.line(k, layout[i].width))
	}
	return out.String()
}

// line is the line k of a piece in a column; blanks, where it is lower. A number stands at the right, all else at the left.
func (p piece) line(k, width int) string {
	switch {
	case k >= p.height():
		return blanks(width)
	case p.kind == api.Number:
		return blanks(width-p.width) + p.lines[k]
	}
	return p.lines[k] + blanks(width-p.width)
}
