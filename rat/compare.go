package rat

import (
	"glyph/api"
	"glyph/nat"
)

// Compare tells which of two is greater.
func Compare(x, y api.Rat) int {
	if !allRight(x, y) {
		return 0
	}
	below, size := difference(x, y)
	switch {
	case len(size) == 0:
		return 0
	case below:
		return -1
	}
	return 1
}

// difference is x less y, times both denominators.
func difference(x, y api.Rat) (bool, []uint32) {
	return sum(x.Below, nat.Product(x.Num, y.Den), !y.Below, nat.Product(y.Num, x.Den))
}

// Tolerant tells which of two is greater, or 0 if they are within the tolerance.
func Tolerant(ct, x, y api.Rat) int {
	if !allRight(ct, x, y) || within(ct, x, y) {
		return 0
	}
	return Compare(x, y)
}

// within reckons with limbs alone: what comes up on the way may be greater than a number may be.
func within(ct, x, y api.Rat) bool {
	_, apart := difference(x, y)
	if ct.Below {
		return len(apart) == 0
	}
	most := greater(x, y)
	return nat.Compare(nat.Product(apart, ct.Den, most.Den), nat.Product(ct.Num, most.Num, x.Den, y.Den)) <= 0
}

// greater is the one of two that has the greater size.
func greater(x, y api.Rat) api.Rat {
	if nat.Compare(nat.Product(x.Num, y.Den), nat.Product(y.Num, x.Den)) < 0 {
		return y
	}
	return x
}
