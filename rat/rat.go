// Package rat is rational numbers, exactly. See ../../shared/doc/02-rat.md.
package rat

import (
	"glyph/api"
	"glyph/nat"
)

// one is limbs of its own at each call: they become part of answers.
func one() []uint32 {
	return nat.Of(1)
}

func isOne(a []uint32) bool {
	return len(a) == 1 && a[0] == 1
}

// OfInt is a whole number.
func OfInt(n int) api.Rat {
	size := uint64(n)
	if n < 0 {
		size = -size
	}
	return api.Rat{Below: n < 0, Num: nat.Of(size), Den: one()}
}

// Right tells whether a number is in lowest terms, and not too great.
func Right(x api.Rat) bool {
	if len(x.Num) > api.MaxLimbs || len(x.Den) > api.MaxLimbs {
		return false
	}
	if !nat.Right(x.Num) || !nat.Right(x.Den) || x.Below && len(x.Num) == 0 {
		return false
	}
	return isOne(x.Den) || len(x.Den) > 0 && isOne(nat.Gcd(x.Num, x.Den))
}

func allRight(l ...api.Rat) bool {
	for _, x := range l {
		if !Right(x) {
			return false
		}
	}
	return true
}

// Make is a number by another one, below 0 or not, in lowest terms.
func Make(below bool, num, den []uint32) (api.Rat, api.Errno) {
	num, den = nat.Trim(num), nat.Trim(den)
	if len(den) == 0 {
		return api.Rat{}, api.ErrForm
	}
	if !isOne(den) {
		g := nat.Gcd(num, den)
		num, _, _ = nat.DivMod(num, g)
		den, _, _ = nat.DivMod(den, g)
	}
	return limited(below, num, den)
}

// limited is what is in lowest terms as a number; it takes the limbs over.
func limited(below bool, num, den []uint32) (api.Rat, api.Errno) {
	if len(num) > api.MaxLimbs || len(den) > api.MaxLimbs {
		return api.Rat{}, api.Limit
	}
	return api.Rat{Below: below && len(num) > 0, Num: num, Den: den}, api.OK
}

// withSign is a right number with another sign, in limbs of its own.
func withSign(below bool, x api.Rat) (api.Rat, api.Errno) {
	return limited(below, nat.Trim(x.Num), nat.Trim(x.Den))
}

// Sign is -1, 0 or 1.
func Sign(x api.Rat) int {
	switch {
	case !Right(x) || len(x.Num) == 0:
		return 0
	case x.Below:
		return -1
	}
	return 1
}

// IsInt tells whether a number is whole.
func IsInt(x api.Rat) bool {
	return Right(x) && isOne(x.Den)
}

// ToInt is a whole number that an int holds; false: it is none.
func ToInt(x api.Rat) (int, bool) {
	if !IsInt(x) {
		return 0, false
	}
	if !x.Below {
		return nat.Small(x.Num)
	}
	// The least int has no opposite: what is 1 nearer to 0 has one.
	nearer, _ := nat.Minus(x.Num, one())
	n, ok := nat.Small(nearer)
	if !ok {
		return 0, false
	}
	return -n - 1, true
}
