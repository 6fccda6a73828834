// Package typed is lines as they are typed: how a text is parted into them, and what of a line is blanks.
package typed

import (
	"iter"
	"strings"
)

// Feed ends a line; Nabla begins a function that is defined, and ends it.
const (
	Feed   = "\n"
	Nabla  = "∇"
	blanks = " \t"
)

// Lines yields a text's lines, without what ends them. Behind the last line feed there is one more, if it has something.
func Lines(text string) iter.Seq[string] {
	return func(yield func(string) bool) {
		line, rest := "", text
		for rest != "" {
			line, rest, _ = strings.Cut(rest, Feed)
			if !yield(line) {
				return
			}
		}
	}
}

// Bare is a line without blanks at both ends.
func Bare(line string) string {
	return strings.Trim(line, blanks)
}

// Words are what stands between the blanks of a line.
func Words(line string) []string {
	return strings.FieldsFunc(line, func(c rune) bool { return strings.ContainsRune(blanks, c) })
}

// IsNabla tells whether a line is ∇ alone, but for blanks.
func IsNabla(line string) bool {
	return Bare(line) == Nabla
}
