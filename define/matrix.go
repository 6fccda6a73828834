package define

import (
	"iter"
	"strings"
	"unicode/utf8"

	"glyph/api"
	"glyph/array"
)

// blank fills lines up; it is no part of one at its end.
const blank = " "

// widest is how many characters the longest line has; false: one has bytes that are none.
func widest(lines []string) (int, bool) {
	width := 0
	for _, line := range lines {
		if !utf8.ValidString(line) {
			return 0, false
		}
		width = max(width, utf8.RuneCountInString(line))
	}
	return width, true
}

// matrix is lines of characters, each filled up to a width.
func matrix(width int, lines []string) (api.Array, api.Errno) {
	shape := []int{len(lines), width}
	if _, e := array.Size(shape); e != api.OK {
		return api.Array{}, e
	}
	var all strings.Builder
	for _, line := range lines {
		all.WriteString(line)
		all.WriteString(strings.Repeat(blank, width-utf8.RuneCountInString(line)))
	}
	// Of a text without characters the prototype is the one item that Make needs.
	return array.Make(shape, array.Text(all.String()).Items...)
}

// linesOf are the lines that an array has, without blanks at their ends.
func linesOf(a api.Array) ([]string, api.Errno) {
	switch {
	case !array.Right(a):
		return nil, api.ErrForm
	case len(a.Shape) > 2:
		return nil, api.ErrDefn
	}
	var out []string
	for line := range rows(a) {
		text, ok := array.ToText(line)
		if !ok {
			return nil, api.ErrDefn
		}
		out = append(out, strings.TrimRight(text, blank))
	}
	return out, api.OK
}

// rows yields those of a matrix, and of a vector or a scalar the items, opened.
func rows(a api.Array) iter.Seq[api.Array] {
	if len(a.Shape) == 2 {
		return rowsOfMatrix(a.Shape[0], a.Shape[1], a.Items)
	}
	return func(yield func(api.Array) bool) {
		for _, i := range array.Items(a) {
			if !yield(array.Open(i)) {
				return
			}
		}
	}
}

func rowsOfMatrix(height, width int, items []api.Item) iter.Seq[api.Array] {
	return func(yield func(api.Array) bool) {
		for i := range height {
			row := array.Text("")
			if width > 0 {
				row = api.Array{Shape: []int{width}, Items: items[i*width : (i+1)*width]}
			}
			if !yield(row) {
				return
			}
		}
	}
}
