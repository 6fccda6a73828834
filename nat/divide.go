package nat

import "math/bits"

// divider is what is left of a number as far as it has been divided.
type divider struct {
	running
}

// by divides by b, right limbs and not 0: it answers the quotient, and the running number becomes what is left.
func (d *divider) by(b []uint32) []uint32 {
	if len(d.limbs) < len(b) {
		return nil
	}
	if len(b) == 1 {
		rest := d.divideLimb(b[0])
		q := d.limbs
		d.running = beginAt(uint64(rest))
		return q
	}
	// With the top bit of the divisor set, a limb of the quotient guessed from the top limbs is at most 2 too great.
	shift := bits.LeadingZeros32(b[len(b)-1])
	b = shiftedUp(b, shift)[:len(b)]
	d.limbs = shiftedUp(d.limbs, shift)
	q := make([]uint32, len(d.limbs)-len(b))
	for j := len(q) - 1; j >= 0; j-- {
		q[j] = quotientLimb(d.limbs[j:j+len(b)+1], b)
	}
	shiftDown(d.limbs, shift)
	d.trim()
	return meant(q)
}

// shiftedUp is limbs shifted by less than 32 bits, with one limb more at the end.
func shiftedUp(a []uint32, shift int) []uint32 {
	out := make([]uint32, len(a)+1)
	carry := uint64(0)
	for i, limb := range a {
		t := uint64(limb)<<shift | carry
		out[i] = uint32(t)
		carry = t >> limbBits
	}
	out[len(a)] = uint32(carry)
	return out
}

// shiftDown shifts limbs, whose lowest bits are 0, back by less than 32 bits.
func shiftDown(a []uint32, shift int) {
	above := uint64(0)
	for i := len(a) - 1; i >= 0; i-- {
		t := above<<limbBits | uint64(a[i])
		a[i] = uint32(t >> shift)
		above = t
	}
}

// quotientLimb is how often b goes into u, which has one limb more and is less than b times 2^32; u becomes what is left.
func quotientLimb(u, b []uint32) uint32 {
	guess := guessLimb(u, b)
	if takeTimes(u, b, guess) {
		guess--
		addBack(u, b)
	}
	return uint32(guess)
}

// guessLimb is what quotientLimb is to be, or 1 more, from the top limbs alone.
func guessLimb(u, b []uint32) uint64 {
	n := len(b)
	top, second := uint64(b[n-1]), uint64(b[n-2])
	head := uint64(u[n])<<limbBits | uint64(u[n-1])
	guess, rest := head/top, head%top
	for guess > limbMax || guess*second > rest<<limbBits|uint64(u[n-2]) {
		guess--
		rest += top
		if rest > limbMax {
			break
		}
	}
	return guess
}

// takeTimes takes f times b from u, round 2^32 at the top, and tells whether that went below 0.
func takeTimes(u, b []uint32, f uint64) bool {
	carry, borrow := uint64(0), uint64(0)
	for i, limb := range b {
		p := uint64(limb)*f + carry
		carry = p >> limbBits
		t := uint64(u[i]) - p&limbMax - borrow
		u[i] = uint32(t)
		borrow = t >> 63
	}
	t := uint64(u[len(b)]) - carry - borrow
	u[len(b)] = uint32(t)
	return t>>63 == 1
}

// addBack adds b to u, which a guess that was 1 too great has brought below 0; the carry at the top cancels that.
func addBack(u, b []uint32) {
	carry := uint64(0)
	for i, limb := range b {
		t := uint64(u[i]) + uint64(limb) + carry
		u[i] = uint32(t)
		carry = t >> limbBits
	}
	u[len(b)] += uint32(carry)
}

// common is the greatest common divisor of the numbers that it has met; 0 ahead of the first one.
type common struct {
	divider
}

// with takes one more number in, right limbs, which become its own.
func (c *common) with(b []uint32) {
	for len(b) > 2 {
		c.by(b)
		c.limbs, b = b, c.limbs
	}
	if len(b) > 0 {
		c.by(b)
		c.running = beginAt(wordGcd(word(b), word(c.limbs)))
	}
}

func wordGcd(a, b uint64) uint64 {
	for b > 0 {
		a, b = b, a%b
	}
	return a
}
