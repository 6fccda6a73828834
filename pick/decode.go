package pick

import (
	"glyph/api"
	"glyph/array"
	"glyph/nat"
	"glyph/rat"
)

// decoded is the number that has the digits b by the radices a.
func decoded(a, b api.Array) (api.Array, api.Errno) {
	radices, digits := items(a), items(b)
	switch {
	case len(a.Shape) > 1 || len(b.Shape) > 1:
		return api.Array{}, api.Rank
	case !areNumbers(a, b):
		return api.Array{}, api.Domain
	case len(digits) == 0:
		return array.Int(0), api.OK
	case len(radices) != len(digits) && len(radices) != 1 && len(digits) != 1:
		return api.Array{}, api.Length
	}
	sum, e := sumOf(figuresOf(radices, digits))
	if e != api.OK {
		return api.Array{}, e
	}
	return array.Rat(sum), api.OK
}

// figure is a digit with its own radix, by which all goes up that stands ahead.
type figure struct {
	radix, digit api.Rat
}

// figuresOf are digits with their radices; one item goes with each of the others. What stands ahead of a radix 0 is times 0, however great it is: it is left out.
func figuresOf(radices, digits []api.Item) []figure {
	many := len(digits)
	if many == 1 {
		many = len(radices)
	}
	var out []figure
	for k := range many {
		f := figure{radices[k%len(radices)].Num, digits[k%len(digits)].Num}
		if len(f.radix.Num) == 0 {
			out = nil
		}
		out = append(out, f)
	}
	return out
}

// sumOf is the sum of each digit times all radices behind its own: what came so far goes up by each radix. That may be too great on the way and come back, so it is a Limit ahead of the end only where it surely does not.
func sumOf(l []figure) (api.Rat, api.Errno) {
	sum, asked := wide{den: nat.Of(1)}, false
	for _, f := range l {
		sum = sum.times(f.radix).plus(f.digit)
		if sum.fits() || asked {
			continue
		}
		if !mayFit(l) {
			return api.Rat{}, api.Limit
		}
		asked = true
	}
	if !sum.fits() {
		return api.Rat{}, api.Limit
	}
	return rat.Make(sum.below, sum.num, sum.den)
}
