package session

import (
	"strings"

	"glyph/api"
	"glyph/machine"
	"glyph/report"
	"glyph/typed"
)

const (
	blank       = " "
	commandSign = ")"
	eraseNames  = ")ERASE" // the one command that takes names
	outermost   = "*"      // behind the last call of a group
	incorrect   = "INCORRECT COMMAND"
	notErased   = "NOT ERASED: "
	cleared     = "CLEAR WS"
)

// Commands are the names of commands, in order.
func Commands() []string {
	return []string{")VARS", ")FNS", ")SI", ")RESET", eraseNames, ")CLEAR", ")OFF"}
}

// commands are what each of them does with its names.
func commands() map[string]func(*Session, []string) []string {
	return map[string]func(*Session, []string) []string{
		")VARS":    (*Session).variables,
		")FNS":     (*Session).functions,
		")SI":      (*Session).suspended,
		")RESET":   (*Session).reset,
		eraseNames: (*Session).erase,
		")CLEAR":   (*Session).clear,
		")OFF":     (*Session).leave,
	}
}

// command does a line that is a command, or ought to be one.
func (s *Session) command(line string) []string {
	words := typed.Words(line)
	word, names := words[0], words[1:]
	do, ok := commands()[word]
	if !ok || len(names) > 0 && word != eraseNames {
		return []string{incorrect}
	}
	return do(s, names)
}

func (s *Session) variables([]string) []string {
	return s.listed(api.Variable)
}

func (s *Session) functions([]string) []string {
	return s.listed(api.Function)
}

// listed are the names of a class, in one line.
func (s *Session) listed(class api.Class) []string {
	l := s.space.Table().List(class)
	if len(l) == 0 {
		return nil
	}
	return []string{strings.Join(l, blank)}
}

// suspended is the state indicator.
func (s *Session) suspended([]string) []string {
	var out []string
	for _, group := range s.space.Suspended() {
		for i, where := range group {
			line := strings.TrimSuffix(report.Prefix(where), blank)
			if i == len(group)-1 {
				line += outermost
			}
			out = append(out, line)
		}
	}
	return out
}

func (s *Session) reset([]string) []string {
	s.space.Reset(true)
	return nil
}

func (s *Session) erase(names []string) []string {
	var kept []string
	for _, name := range names {
		if s.space.Erase(name) == 0 {
			kept = append(kept, name)
		}
	}
	if len(kept) == 0 {
		return nil
	}
	return []string{notErased + strings.Join(kept, blank)}
}

func (s *Session) clear([]string) []string {
	s.space = machine.New()
	return []string{cleared}
}

func (s *Session) leave([]string) []string {
	s.off = true
	return nil
}
