package nat

import (
	"strconv"
	"strings"
)

// Decimal digits go in groups, as many as a limb can hold.
const (
	groupDigits = 9
	groupScale  = 1_000_000_000
)

// printer is what is still to be printed of a number.
type printer struct {
	running
}

// groups are the groups of the digits, the lowest first.
func (p *printer) groups() []uint32 {
	var out []uint32
	for len(p.limbs) > 0 {
		out = append(out, p.divideLimb(groupScale))
	}
	return out
}

// Print is a number in decimal.
func Print(a []uint32) string {
	p := printer{begin(a)}
	groups := p.groups()
	if len(groups) == 0 {
		return "0"
	}
	var text strings.Builder
	for i := len(groups) - 1; i >= 0; i-- {
		digits := strconv.FormatUint(uint64(groups[i]), 10)
		if i < len(groups)-1 {
			text.WriteString(strings.Repeat("0", groupDigits-len(digits)))
		}
		text.WriteString(digits)
	}
	return text.String()
}

// reader is the number of the digits that have been read.
type reader struct {
	running
}

// read takes up to groupDigits digits in.
func (r *reader) read(digits string) {
	scale, group := uint32(1), uint32(0)
	for i := range len(digits) {
		scale *= 10
		group = group*10 + uint32(digits[i]-'0')
	}
	r.timesLimb(scale, group)
}

// Parse reads one; false: it is none.
func Parse(s string) ([]uint32, bool) {
	if !allDigits(s) {
		return nil, false
	}
	var r reader
	for len(s) > groupDigits {
		r.read(s[:groupDigits])
		s = s[groupDigits:]
	}
	r.read(s)
	return r.limbs, true
}

func allDigits(s string) bool {
	for i := range len(s) {
		if s[i] < '0' || s[i] > '9' {
			return false
		}
	}
	return len(s) > 0
}
