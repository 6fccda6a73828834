package rat

import (
	"glyph/api"
	"glyph/nat"
)

// Add is the sum of numbers, one behind the other; of none 0.
func Add(l ...api.Rat) (api.Rat, api.Errno) {
	return fold(OfInt(0), plus, l...)
}

// Mul is the product of numbers, one behind the other; of none 1.
func Mul(l ...api.Rat) (api.Rat, api.Errno) {
	return fold(OfInt(1), times, l...)
}

// fold asks for all numbers to be right ahead of the first step: ErrForm goes before Limit.
func fold(ofNone api.Rat, step func(x, y api.Rat) (api.Rat, api.Errno), l ...api.Rat) (api.Rat, api.Errno) {
	if !allRight(l...) {
		return api.Rat{}, api.ErrForm
	}
	if len(l) == 0 {
		return ofNone, api.OK
	}
	x, e := withSign(l[0].Below, l[0])
	for _, y := range l[1:] {
		if x, e = step(x, y); e != api.OK {
			return api.Rat{}, e
		}
	}
	return x, e
}

// plus, times, by are of right numbers; by of a y that is not 0.
func plus(x, y api.Rat) (api.Rat, api.Errno) {
	below, num := sum(x.Below, nat.Product(x.Num, y.Den), y.Below, nat.Product(y.Num, x.Den))
	return Make(below, num, nat.Product(x.Den, y.Den))
}

func times(x, y api.Rat) (api.Rat, api.Errno) {
	return Make(x.Below != y.Below, nat.Product(x.Num, y.Num), nat.Product(x.Den, y.Den))
}

func by(x, y api.Rat) (api.Rat, api.Errno) {
	return Make(x.Below != y.Below, nat.Product(x.Num, y.Den), nat.Product(x.Den, y.Num))
}

// sum is that of two whole numbers of any size, each below 0 or not.
func sum(xBelow bool, x []uint32, yBelow bool, y []uint32) (bool, []uint32) {
	if xBelow == yBelow {
		return xBelow, nat.Sum(x, y)
	}
	if d, ok := nat.Minus(x, y); ok {
		return xBelow, d
	}
	d, _ := nat.Minus(y, x)
	return yBelow, d
}

// Sub is x less y.
func Sub(x, y api.Rat) (api.Rat, api.Errno) {
	if !allRight(x, y) {
		return api.Rat{}, api.ErrForm
	}
	y.Below = !y.Below
	return plus(x, y)
}

// Div is x by y.
func Div(x, y api.Rat) (api.Rat, api.Errno) {
	switch {
	case !allRight(x, y):
		return api.Rat{}, api.ErrForm
	case len(y.Num) > 0:
		return by(x, y)
	case len(x.Num) > 0:
		return api.Rat{}, api.Domain
	}
	return OfInt(1), api.OK
}

// Neg is a number with the other sign.
func Neg(x api.Rat) (api.Rat, api.Errno) {
	if !Right(x) {
		return api.Rat{}, api.ErrForm
	}
	return withSign(!x.Below, x)
}

// Abs is the size of a number.
func Abs(x api.Rat) (api.Rat, api.Errno) {
	if !Right(x) {
		return api.Rat{}, api.ErrForm
	}
	return withSign(false, x)
}

// Floor is the greatest whole number that is not above x.
func Floor(x api.Rat) (api.Rat, api.Errno) {
	return wholeNextTo(x, x.Below)
}

// Ceil is the least whole number that is not below x.
func Ceil(x api.Rat) (api.Rat, api.Errno) {
	return wholeNextTo(x, !x.Below)
}

// wholeNextTo is x, if it is whole, else the whole number next to it that is further away from 0, or nearer.
func wholeNextTo(x api.Rat, further bool) (api.Rat, api.Errno) {
	if !Right(x) {
		return api.Rat{}, api.ErrForm
	}
	q, rest, _ := nat.DivMod(x.Num, x.Den)
	if further && len(rest) > 0 {
		q = nat.Sum(q, one())
	}
	return limited(x.Below, q, one())
}
