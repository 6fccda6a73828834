package pick

import (
	"math/big"
	"slices"
	"testing"

	"glyph/api"
	"glyph/nat"
	"glyph/rat"
)

func bigOf(a []uint32) *big.Int {
	out, _ := new(big.Int).SetString(nat.Print(a), 10)
	return out
}

// TestRing asks for what the reckoning leans on: a prime far above the product of two numerators.
func TestRing(t *testing.T) { // P7.1
	prime := bigOf(newRing().prime)
	if !prime.ProbablyPrime(20) || prime.BitLen() != 2207 {
		t.Error("no such prime", prime)
	}
}

func TestQuotient(t *testing.T) { // P7.1
	r := newRing()
	prime := bigOf(r.prime)
	last, _ := nat.Minus(r.prime, nat.Of(1))
	most := slices.Repeat([]uint32{0xFFFFFFFF}, api.MaxLimbs)
	numbers := [][]uint32{nat.Of(1), nat.Of(2), nat.Of(3), nat.Of(1 << 40), most, last}
	for _, num := range append(numbers, nil) {
		for _, den := range numbers {
			want := new(big.Int).ModInverse(bigOf(den), prime)
			want.Mod(want.Mul(want, bigOf(num)), prime)
			if got := r.quotient(num, den); bigOf(got).Cmp(want) != 0 {
				t.Error(num, den, got)
			}
		}
	}
}

// TestMayFit: what is no number is told as none without reckoning it, what is one never is, at the edges neither.
func TestMayFit(t *testing.T) { // P7.1, P5
	power := func(n int) api.Rat {
		x, _ := rat.Power(rat.OfInt(2), rat.OfInt(n))
		return x
	}
	most := slices.Repeat([]uint32{0xFFFFFFFF}, api.MaxLimbs)
	next := slices.Clone(most)
	next[0]--
	nought, one := rat.OfInt(0), rat.OfInt(1)
	there, back := figure{power(1000), nought}, figure{power(-1000), nought}
	cases := []struct {
		l    []figure
		want bool
	}{
		{nil, true},
		{[]figure{{one, nought}}, true},
		{[]figure{{one, api.Rat{Num: most, Den: nat.Of(1)}}, there, back}, true},
		{[]figure{{one, api.Rat{Num: nat.Of(1), Den: most}}, back, there}, true},
		{[]figure{{one, api.Rat{Num: next, Den: most}}, there, back}, true},
		{[]figure{{one, api.Rat{Below: true, Num: most, Den: next}}, there, back}, true},
		{[]figure{{one, power(1023)}, {rat.OfInt(2), rat.OfInt(-1)}}, true},
		{[]figure{{one, power(1023)}, {rat.OfInt(2), nought}}, false},
		{[]figure{{one, power(-1023)}, {power(-1), nought}}, false},
		{[]figure{{one, one}, there, there}, false},
		{[]figure{{one, one}, back, back}, false},
		{slices.Repeat([]figure{{power(1000), one}}, api.MaxItems), false},
		{slices.Repeat([]figure{{power(-1000), one}}, api.MaxItems), false},
		{slices.Repeat([]figure{{rat.OfInt(-2), one}}, 1026), false},
	}
	for k, c := range cases {
		if mayFit(c.l) != c.want {
			t.Error(k, "want", c.want)
		}
	}
}
