package nat

// running is the number that a reckoning has come to. Its limbs are right between calls, and it shares them with nobody, so they may be answered as they are.
type running struct {
	limbs []uint32
}

func begin(a []uint32) running {
	return running{Trim(a)}
}

func beginAt(n uint64) running {
	return running{Of(n)}
}

func (r *running) trim() {
	r.limbs = meant(r.limbs)
}

// push lays a limb on top, unless it is 0: limbs stay right.
func (r *running) push(limb uint64) {
	if limb > 0 {
		r.limbs = append(r.limbs, uint32(limb))
	}
}

// timesLimb makes the number f times as great, and adds more.
func (r *running) timesLimb(f, more uint32) {
	carry := uint64(more)
	for i, limb := range r.limbs {
		t := uint64(limb)*uint64(f) + carry
		r.limbs[i] = uint32(t)
		carry = t >> limbBits
	}
	r.push(carry)
}

// divideLimb divides the number by b, which is not 0, and answers what is left.
func (r *running) divideLimb(b uint32) uint32 {
	rest := uint64(0)
	for i := len(r.limbs) - 1; i >= 0; i-- {
		t := rest<<limbBits | uint64(r.limbs[i])
		r.limbs[i] = uint32(t / uint64(b))
		rest = t % uint64(b)
	}
	r.trim()
	return uint32(rest)
}

// adder is a sum as far as it has come.
type adder struct {
	running
}

func (s *adder) add(b []uint32) {
	if len(s.limbs) < len(b) {
		s.limbs = append(s.limbs, make([]uint32, len(b)-len(s.limbs))...)
	}
	carry := uint64(0)
	for i := range s.limbs {
		if i >= len(b) && carry == 0 {
			return
		}
		t := uint64(s.limbs[i]) + carry
		if i < len(b) {
			t += uint64(b[i])
		}
		s.limbs[i] = uint32(t)
		carry = t >> limbBits
	}
	s.push(carry)
}

// subtractor is a difference as far as it has come.
type subtractor struct {
	running
}

// less takes b away, which is not above the number.
func (s *subtractor) less(b []uint32) {
	borrow := uint64(0)
	for i := range s.limbs {
		if i >= len(b) && borrow == 0 {
			break
		}
		t := uint64(s.limbs[i]) - borrow
		if i < len(b) {
			t -= uint64(b[i])
		}
		s.limbs[i] = uint32(t)
		borrow = t >> 63
	}
	s.trim()
}

// multiplier is a product as far as it has come.
type multiplier struct {
	running
}

// times may be handed the running number itself: what it reckons is new.
func (p *multiplier) times(b []uint32) {
	out := make([]uint32, len(p.limbs)+len(b))
	for i, x := range p.limbs {
		carry := uint64(0)
		for j, y := range b {
			t := uint64(x)*uint64(y) + uint64(out[i+j]) + carry
			out[i+j] = uint32(t)
			carry = t >> limbBits
		}
		out[i+len(b)] = uint32(carry)
	}
	p.limbs = out
	p.trim()
}
