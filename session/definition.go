package session

import (
	"slices"
	"strconv"
	"strings"

	"glyph/api"
	"glyph/report"
	"glyph/typed"
)

// definition is the lines so far of a function that is being defined, its header the first one; without lines none is.
type definition struct {
	lines []string
}

func (d *definition) isOpen() bool {
	return len(d.lines) > 0
}

// add takes one more line; false: there is no room for it.
func (d *definition) add(line string) bool {
	if len(d.lines) >= api.MaxLines {
		return false
	}
	d.lines = append(d.lines, line)
	return true
}

// end lets no function be defined any more: the lines that there were.
func (d *definition) end() []string {
	out := d.lines
	d.lines = nil
	return out
}

// copied is a definition with a list of its own.
func (d *definition) copied() definition {
	return definition{slices.Clone(d.lines)}
}

// begin takes the line that begins a function: its header stands behind the ∇, as it is.
func (s *Session) begin(line string) []string {
	_, header, _ := strings.Cut(line, typed.Nabla)
	if typed.Bare(header) == "" {
		return defnError()
	}
	s.add(header)
	return nil
}

// goOn takes a line while a function is defined.
func (s *Session) goOn(line string) []string {
	switch {
	case typed.IsNabla(line):
		return s.finish()
	case !s.add(line):
		s.end()
		return defnError()
	}
	return nil
}

// finish defines the function that was typed.
func (s *Session) finish() []string {
	_, e, line := s.space.Define(s.end()...)
	switch e {
	case api.OK:
		return nil
	case api.ErrDefn:
		return defnError(" [", strconv.Itoa(line), "]")
	}
	return defnError()
}

// defnError is what is told of a function that may not be.
func defnError(behind ...string) []string {
	return []string{report.Text(api.ErrDefn) + strings.Join(behind, "")}
}
