package rat

import (
	"glyph/api"
	"glyph/nat"
)

// Residue is what x leaves of y. It makes a number at each step, since each of them may be a Limit.
func Residue(x, y api.Rat) (api.Rat, api.Errno) {
	if !allRight(x, y) {
		return api.Rat{}, api.ErrForm
	}
	if len(x.Num) == 0 {
		return withSign(y.Below, y)
	}
	quotient, e := by(y, x)
	if e != api.OK {
		return api.Rat{}, e
	}
	whole, e := Floor(quotient)
	if e != api.OK {
		return api.Rat{}, e
	}
	taken, e := times(x, whole)
	if e != api.OK {
		return api.Rat{}, e
	}
	return Sub(y, taken)
}

// Power is x to the power of y.
func Power(x, y api.Rat) (api.Rat, api.Errno) {
	switch {
	case !allRight(x, y):
		return api.Rat{}, api.ErrForm
	case !isOne(y.Den):
		return api.Rat{}, api.Domain
	case len(y.Num) == 0:
		return OfInt(1), api.OK
	case len(x.Num) == 0 && y.Below:
		return api.Rat{}, api.Domain
	}
	num, den := x.Num, x.Den
	if y.Below {
		num, den = den, num
	}
	num, fits := powerOf(num, y.Num)
	if !fits {
		return api.Rat{}, api.Limit
	}
	if den, fits = powerOf(den, y.Num); !fits {
		return api.Rat{}, api.Limit
	}
	odd := y.Num[0]&1 == 1
	return limited(x.Below && odd, num, den)
}

// powerOf is a to the power of n, which is not 0; false: it has too many limbs. Of 0 and 1 any n may be, however great.
func powerOf(a, n []uint32) ([]uint32, bool) {
	if nat.Bits(a) < 2 {
		return nat.Trim(a), true
	}
	times, ok := nat.Small(n)
	if !ok {
		return nil, false
	}
	return nat.Power(a, times, api.MaxLimbs)
}

// isCount tells whether a right number is whole and not below 0.
func isCount(x api.Rat) bool {
	return isOne(x.Den) && !x.Below
}

// Factorial is the product of 1 to x.
func Factorial(x api.Rat) (api.Rat, api.Errno) {
	if !Right(x) {
		return api.Rat{}, api.ErrForm
	}
	if !isCount(x) {
		return api.Rat{}, api.Domain
	}
	product := one()
	for i := one(); nat.Compare(i, x.Num) <= 0; i = nat.Sum(i, one()) {
		if product = nat.Product(product, i); len(product) > api.MaxLimbs {
			return api.Rat{}, api.Limit
		}
	}
	return limited(false, product, one())
}

// Binomial is how many sets of x things y things have.
func Binomial(x, y api.Rat) (api.Rat, api.Errno) {
	if !allRight(x, y) {
		return api.Rat{}, api.ErrForm
	}
	if !isCount(x) || !isCount(y) {
		return api.Rat{}, api.Domain
	}
	others, ok := nat.Minus(y.Num, x.Num)
	if !ok {
		return OfInt(0), api.OK
	}
	if nat.Compare(x.Num, others) < 0 {
		return choose(x.Num, others)
	}
	return choose(others, x.Num)
}

// choose is how many sets of fewer things fewer and more things together have. It goes from the sets of i-1 things of more+i-1 to those of i things of more+i, which are never fewer: the first one with too many limbs tells, and as they double at least, one is there soon.
func choose(fewer, more []uint32) (api.Rat, api.Errno) {
	sets := one()
	for i := one(); nat.Compare(i, fewer) <= 0; i = nat.Sum(i, one()) {
		sets, _, _ = nat.DivMod(nat.Product(sets, nat.Sum(more, i)), i)
		if len(sets) > api.MaxLimbs {
			return api.Rat{}, api.Limit
		}
	}
	return limited(false, sets, one())
}
