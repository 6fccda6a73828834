package pick

import (
	"glyph/api"
	"glyph/nat"
)

// mostBits are those of a number's numerator, and of its denominator, at most.
const mostBits = 32 * api.MaxLimbs

// factors: the product of 1 to it, and 1, is a prime. It has 2207 bits, far more than twice mostBits, so that modulo it no two numbers are alike, and hardly anything that is no number is like one. (A prime next to a power of 2 would be shorter to write, but the powers of 2 come back there.)
const factors = 320

// ring is whole numbers modulo a prime above all numerators and denominators of numbers: none of these but 0, and no product of them, is 0 there.
type ring struct {
	prime []uint32
}

func newRing() ring {
	product := nat.Of(1)
	for i := range uint64(factors) {
		product = nat.Product(product, nat.Of(i+1))
	}
	return ring{nat.Sum(product, nat.Of(1))}
}

// mayFit tells whether the sum of figures may be a number; if not, it surely is none. However great the sum is, nothing that comes up here is.
func mayFit(l []figure) bool {
	r := newRing()
	num, den := r.sum(l)
	_, factor := r.factorFor(r.quotient(num, den), mostBits)
	return nat.Bits(factor) <= mostBits
}

func (r ring) modulo(a []uint32) []uint32 {
	_, rest, _ := nat.DivMod(a, r.prime)
	return rest
}

// signed is a, which is not above the prime; of one below 0 what it lacks to the prime.
func (r ring) signed(below bool, a []uint32) []uint32 {
	if !below {
		return a
	}
	out, _ := nat.Minus(r.prime, a)
	return out
}

// sum is the numerator and the denominator of the sum of figures, not in lowest terms.
func (r ring) sum(l []figure) (num, den []uint32) {
	den = nat.Of(1)
	for _, f := range l {
		radix, digit := r.signed(f.radix.Below, f.radix.Num), r.signed(f.digit.Below, f.digit.Num)
		raised := nat.Product(num, radix, f.digit.Den)
		added := nat.Product(den, digit, f.radix.Den)
		num = r.modulo(nat.Sum(raised, added))
		den = r.modulo(nat.Product(den, f.radix.Den, f.digit.Den))
	}
	return num, den
}

// quotient is num by den, which is not 0.
func (r ring) quotient(num, den []uint32) []uint32 {
	below, factor := r.factorFor(den, 1)
	return r.modulo(nat.Product(num, r.signed(below, factor)))
}

// factorFor is the first factor, below 0 or not, on Euclid's way from the prime and v down, that makes of v a number with at most so many bits. If v is p by q, both with at most mostBits bits, then p and q are that number and that factor, or both as many times as great, so that the factor is not above q: all other pairs whose quotient v is lie too far away, since the prime is far greater than the product of two such numbers.
func (r ring) factorFor(v []uint32, most int) (below bool, factor []uint32) {
	var last []uint32
	above, rest := r.prime, v
	factor = nat.Of(1)
	for nat.Bits(rest) > most {
		times, left, _ := nat.DivMod(above, rest)
		above, rest = rest, left
		last, factor = factor, nat.Sum(last, nat.Product(times, factor))
		below = !below
	}
	return below, factor
}
