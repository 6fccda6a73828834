package rat

import (
	"glyph/api"
	"glyph/nat"
)

const macron = '¯'

// Print is a number's text.
func Print(x api.Rat) string {
	if !Right(x) {
		return ""
	}
	text := nat.Print(x.Num)
	if x.Below {
		text = string(macron) + text
	}
	if !isOne(x.Den) {
		text += "r" + nat.Print(x.Den)
	}
	return text
}

// written is a number's text in its parts: what stands ahead of its mark (a point, an r; 0: none), and what stands behind.
type written struct {
	below         bool
	mark          rune
	ahead, behind string
}

// Parse reads a number.
func Parse(s string) (api.Rat, api.Errno) {
	if tooLong(s) {
		return api.Rat{}, api.Limit
	}
	w := cut(s)
	num, isNum := nat.Parse(w.ahead)
	rest, isRest := nat.Parse(w.behind)
	switch {
	case !isNum || w.mark != 0 && !isRest:
		return api.Rat{}, api.ErrForm
	case w.mark == 'r':
		return Make(w.below, num, rest)
	case w.mark == '.':
		// A power of ten has at most as many limbs as noughts.
		scale, _ := nat.Power(nat.Of(10), len(w.behind), len(w.behind))
		return Make(w.below, nat.Sum(nat.Product(num, scale), rest), scale)
	}
	return Make(w.below, num, one())
}

func tooLong(s string) bool {
	count := 0
	for range s {
		if count++; count > api.MaxDigits {
			return true
		}
	}
	return false
}

// cut takes a text apart at the first mark. A character that may not stand where it stands is left in its part, which is then no digits.
func cut(s string) written {
	var w written
	from := 0
	for i, c := range s {
		switch {
		case c == macron && i == 0:
			w.below = true
			from = len(string(macron))
		case (c == '.' || c == 'r') && w.mark == 0:
			w.mark = c
			w.ahead = s[from:i]
			from = i + 1
		}
	}
	if w.mark == 0 {
		w.ahead = s[from:]
	} else {
		w.behind = s[from:]
	}
	return w
}
