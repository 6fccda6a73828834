package scalar

import (
	"glyph/api"
	"glyph/rat"
)

// monad and dyad are functions of right numbers.
type (
	monad func(x api.Rat) (api.Rat, api.Errno)
	dyad  func(x, y api.Rat) (api.Rat, api.Errno)
)

// ofOne are the functions of one number, by their glyphs.
func ofOne() map[rune]monad {
	return map[rune]monad{
		'+': same,
		'-': rat.Neg,
		'×': func(x api.Rat) (api.Rat, api.Errno) { return rat.OfInt(rat.Sign(x)), api.OK },
		'÷': reciprocal,
		'⌈': rat.Ceil,
		'⌊': rat.Floor,
		'|': rat.Abs,
		'*': powerOfNone,
		'!': rat.Factorial,
		'~': not,
	}
}

// ofTwo are the functions of two numbers, by their glyphs; numbers are compared by a tolerance.
func ofTwo(ct api.Rat) map[rune]dyad {
	compared := func(holds func(order int) bool) dyad {
		return func(x, y api.Rat) (api.Rat, api.Errno) {
			return truth(holds(rat.Tolerant(ct, x, y))), api.OK
		}
	}
	return map[rune]dyad{
		'+': func(x, y api.Rat) (api.Rat, api.Errno) { return rat.Add(x, y) },
		'-': rat.Sub,
		'×': func(x, y api.Rat) (api.Rat, api.Errno) { return rat.Mul(x, y) },
		'÷': rat.Div,
		'⌈': greater,
		'⌊': lesser,
		'|': rat.Residue,
		'*': rat.Power,
		'!': rat.Binomial,
		'<': compared(func(order int) bool { return order < 0 }),
		'≤': compared(func(order int) bool { return order <= 0 }),
		'=': compared(func(order int) bool { return order == 0 }),
		'≥': compared(func(order int) bool { return order >= 0 }),
		'>': compared(func(order int) bool { return order > 0 }),
		'≠': compared(func(order int) bool { return order != 0 }),
		'∧': logical(func(x, y bool) bool { return x && y }),
		'∨': logical(func(x, y bool) bool { return x || y }),
		'⍲': logical(func(x, y bool) bool { return !(x && y) }),
		'⍱': logical(func(x, y bool) bool { return !(x || y) }),
	}
}

// same is a number in limbs of its own.
func same(x api.Rat) (api.Rat, api.Errno) {
	return rat.Add(x)
}

func reciprocal(x api.Rat) (api.Rat, api.Errno) {
	return rat.Div(rat.OfInt(1), x)
}

// powerOfNone stands for the power that is no rational but of 0.
func powerOfNone(x api.Rat) (api.Rat, api.Errno) {
	if !isZero(&x) {
		return api.Rat{}, api.Domain
	}
	return rat.OfInt(1), api.OK
}

func not(x api.Rat) (api.Rat, api.Errno) {
	if !isBit(&x) {
		return api.Rat{}, api.Domain
	}
	return truth(isZero(&x)), api.OK
}

func greater(x, y api.Rat) (api.Rat, api.Errno) {
	if rat.Compare(x, y) < 0 {
		return same(y)
	}
	return same(x)
}

func lesser(x, y api.Rat) (api.Rat, api.Errno) {
	if rat.Compare(x, y) > 0 {
		return same(y)
	}
	return same(x)
}

// logical is a function of two numbers that are 0 or 1.
func logical(holds func(x, y bool) bool) dyad {
	return func(x, y api.Rat) (api.Rat, api.Errno) {
		if !isBit(&x) || !isBit(&y) {
			return api.Rat{}, api.Domain
		}
		return truth(holds(!isZero(&x), !isZero(&y))), api.OK
	}
}

func truth(holds bool) api.Rat {
	if holds {
		return rat.OfInt(1)
	}
	return rat.OfInt(0)
}

// hasNone tells whether a function of two right numbers has a Domain error, without reckoning what it would be.
func hasNone(glyph rune, x, y *api.Rat) bool {
	switch glyph {
	case '÷':
		return isZero(y) && !isZero(x)
	case '*':
		return !isWhole(y) || isZero(x) && y.Below
	case '!':
		return !isWhole(x) || !isWhole(y) || x.Below || y.Below
	case '∧', '∨', '⍲', '⍱':
		return !isBit(x) || !isBit(y)
	}
	return false
}

// isSmall tells whether what comes of two right numbers, and all that comes up on the way, surely has no more limbs than it may, without reckoning it.
func isSmall(glyph rune, x, y *api.Rat) bool {
	if glyph == '*' || glyph == '!' {
		return false
	}
	return len(x.Num)+len(x.Den)+len(y.Num)+len(y.Den) < api.MaxLimbs
}

// These ask right numbers, and look at their limbs alone.

func isZero(x *api.Rat) bool {
	return len(x.Num) == 0
}

func isWhole(x *api.Rat) bool {
	return len(x.Den) == 1 && x.Den[0] == 1
}

func isBit(x *api.Rat) bool {
	return isZero(x) || isWhole(x) && !x.Below && len(x.Num) == 1 && x.Num[0] == 1
}
