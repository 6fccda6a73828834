package pick

import (
	"glyph/api"
	"glyph/nat"
)

// wide is a rational in lowest terms, of any size. It is what rat's numbers come to on a way that has no Limit.
type wide struct {
	below    bool
	num, den []uint32
}

// fits tells whether it is a number.
func (x wide) fits() bool {
	return len(x.num) <= api.MaxLimbs && len(x.den) <= api.MaxLimbs
}

// times and plus take common divisors out ahead of multiplying, one of both always being small: those of two great numbers would cost too much.
func (x wide) times(y api.Rat) wide {
	num, otherDen := lowest(x.num, y.Den)
	otherNum, den := lowest(y.Num, x.den)
	return wide{x.below != y.Below, nat.Product(num, otherNum), nat.Product(den, otherDen)}
}

func (x wide) plus(y api.Rat) wide {
	common := nat.Gcd(x.den, y.Den)
	own, _, _ := nat.DivMod(x.den, common)
	other, _, _ := nat.DivMod(y.Den, common)
	below, num := signedSum(x.below, nat.Product(x.num, other), y.Below, nat.Product(y.Num, own))
	// The sum has no divisors in common with own and other, only with what they have in common.
	num, common = lowest(num, common)
	return wide{below, num, nat.Product(own, other, common)}
}

// lowest are two numbers, not both 0, each by their greatest common divisor.
func lowest(a, b []uint32) ([]uint32, []uint32) {
	if nat.Bits(a) == 1 || nat.Bits(b) == 1 {
		return a, b
	}
	common := nat.Gcd(a, b)
	if nat.Bits(common) == 1 {
		return a, b
	}
	a, _, _ = nat.DivMod(a, common)
	b, _, _ = nat.DivMod(b, common)
	return a, b
}

// signedSum is that of two whole numbers, each below 0 or not.
func signedSum(xBelow bool, x []uint32, yBelow bool, y []uint32) (bool, []uint32) {
	if xBelow == yBelow {
		return xBelow, nat.Sum(x, y)
	}
	if d, ok := nat.Minus(x, y); ok {
		return xBelow, d
	}
	d, _ := nat.Minus(y, x)
	return yBelow, d
}
