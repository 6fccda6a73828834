package show

import (
	"strconv"
	"strings"

	"glyph/api"
	"glyph/rat"
)

const quote = "'"

// literal is the text of a right array.
func literal(a api.Array) string {
	return lengths(a.Shape) + strand(a.Items)
}

// lengths are what stands ahead of a strand, so that it has a shape: of a scalar, and of a strand that is a vector by itself, nothing.
func lengths(shape []int) string {
	switch {
	case len(shape) == 0 || len(shape) == 1 && shape[0] > 1:
		return ""
	case len(shape) == 1 && shape[0] == 1:
		return ","
	}
	var l []string
	for _, n := range shape {
		l = append(l, strconv.Itoa(n))
	}
	return strings.Join(l, blank) + "⍴"
}

// strand is items side by side. A box that stands alone is enclosed: what is in brackets would be its array itself.
func strand(items []api.Item) string {
	var l []string
	for _, i := range items {
		l = append(l, literalOf(i))
	}
	if len(items) == 1 && items[0].Kind == api.Box {
		return "⊂" + l[0]
	}
	return strings.Join(l, blank)
}

func literalOf(i api.Item) string {
	switch i.Kind {
	case api.Box:
		return "(" + literal(i.Box[0]) + ")"
	case api.Char:
		return quoted(string(i.Char))
	}
	return rat.Print(i.Num)
}

func quoted(s string) string {
	return quote + strings.ReplaceAll(s, quote, quote+quote) + quote
}
