// Package nat is natural numbers of limbs. See ../../shared/doc/01-nat.md.
package nat

import "math/bits"

const (
	limbBits = 32
	limbMax  = 1<<limbBits - 1
	// longest is the document's bound on lists: a power beyond it is never begun, however many limbs a caller allows.
	longest = 1<<31 - 1
)

// meant is limbs as they are taken everywhere here. It lies in a: it is only read, never answered.
func meant(a []uint32) []uint32 {
	for len(a) > 0 && a[len(a)-1] == 0 {
		a = a[:len(a)-1]
	}
	return a
}

// Of is a number's limbs.
func Of(n uint64) []uint32 {
	return Trim([]uint32{uint32(n), uint32(n >> limbBits)})
}

// Right tells whether limbs are a number's: the last one is not 0.
func Right(a []uint32) bool {
	return len(meant(a)) == len(a)
}

// Trim is limbs without those at the end that are 0.
func Trim(a []uint32) []uint32 {
	return append([]uint32(nil), meant(a)...)
}

// Small is a number below 2^63; false: it is not.
func Small(a []uint32) (int, bool) {
	if Bits(a) > 63 {
		return 0, false
	}
	return int(word(meant(a))), true
}

// word is what at most two limbs say.
func word(a []uint32) uint64 {
	n := uint64(0)
	for i, limb := range a {
		n |= uint64(limb) << (limbBits * i)
	}
	return n
}

// Compare tells which of two is greater.
func Compare(a, b []uint32) int {
	a, b = meant(a), meant(b)
	if len(a) != len(b) {
		return order(len(a) < len(b))
	}
	for i := len(a) - 1; i >= 0; i-- {
		if a[i] != b[i] {
			return order(a[i] < b[i])
		}
	}
	return 0
}

func order(less bool) int {
	if less {
		return -1
	}
	return 1
}

// Sum is that of numbers; of none 0.
func Sum(l ...[]uint32) []uint32 {
	var s adder
	for _, a := range l {
		s.add(meant(a))
	}
	return s.limbs
}

// Product is that of numbers; of none 1.
func Product(l ...[]uint32) []uint32 {
	p := multiplier{beginAt(1)}
	for _, a := range l {
		p.times(meant(a))
	}
	return p.limbs
}

// Minus is a less b; false: it would be below 0.
func Minus(a, b []uint32) ([]uint32, bool) {
	if Compare(a, b) < 0 {
		return nil, false
	}
	s := subtractor{begin(a)}
	s.less(meant(b))
	return s.limbs, true
}

// DivMod is a by b, and what is left; false: b is 0.
func DivMod(a, b []uint32) (q, r []uint32, ok bool) {
	b = meant(b)
	if len(b) == 0 {
		return nil, nil, false
	}
	d := divider{begin(a)}
	q = d.by(b)
	return q, d.limbs, true
}

// Gcd is the greatest common divisor of numbers; of none 0.
func Gcd(l ...[]uint32) []uint32 {
	var c common
	for _, a := range l {
		c.with(Trim(a))
	}
	return c.limbs
}

// Power is a to the power of n; false: it would have more limbs than most.
func Power(a []uint32, n, most int) ([]uint32, bool) {
	if n < 0 || tooGreat(a, n, most) {
		return nil, false
	}
	p := multiplier{beginAt(1)}
	for i := bits.Len(uint(n)) - 1; i >= 0; i-- {
		p.times(p.limbs)
		if n>>i&1 == 1 {
			p.times(meant(a))
		}
	}
	if len(p.limbs) > most {
		return nil, false
	}
	return p.limbs, true
}

// tooGreat tells ahead of the work of most powers that are too great: from 2 on, a power has more than (Bits(a)-1)n bits. It has at most twice as many, so what is let through has less than twice the limbs that may be.
func tooGreat(a []uint32, n, most int) bool {
	width := Bits(a)
	if width < 2 {
		return false
	}
	high, low := bits.Mul64(uint64(width-1), uint64(n))
	return high > 0 || low >= limbBits*uint64(min(max(most, 0), longest))
}

// Bits is how many bits a number has.
func Bits(a []uint32) int {
	a = meant(a)
	if len(a) == 0 {
		return 0
	}
	return limbBits*(len(a)-1) + bits.Len32(a[len(a)-1])
}
