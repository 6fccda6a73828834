package rat_test

import (
	"math"
	"math/big"
	"testing"

	"glyph/api"
	"glyph/rat"
)

// residue is the document's way to a residue, and how many of its steps fit: 4, if all do.
func residue(x, y *big.Rat) (*big.Rat, int) {
	if x.Sign() == 0 {
		return y, 4
	}
	quotient := new(big.Rat).Quo(y, x)
	down := floor(quotient)
	product := new(big.Rat).Mul(x, down)
	difference := new(big.Rat).Sub(y, product)
	for i, step := range []*big.Rat{quotient, down, product, difference} {
		if !fits(step) {
			return nil, i
		}
	}
	return difference, 4
}

func checkResidue(t *testing.T, x, y api.Rat) int {
	t.Helper()
	got, e := rat.Residue(x, y)
	want, steps := residue(toBig(x), toBig(y))
	expect(t, "residue", got, e, want, api.Limit)
	if e == api.OK && rat.Sign(x) != 0 {
		size, _ := rat.Abs(x)
		gotSize, _ := rat.Abs(got)
		if rat.Sign(got) == -rat.Sign(x) || rat.Compare(gotSize, size) >= 0 {
			t.Error("lies not from 0 to x", x, y, got)
		}
	}
	return steps
}

func TestResidue(t *testing.T) { // P2.4, P2.9
	pairs(func(x, y api.Rat) { checkResidue(t, x, y) })
	cases := []struct{ x, y, want api.Rat }{
		{rat.OfInt(3), rat.OfInt(-7), rat.OfInt(2)}, {rat.OfInt(-3), rat.OfInt(7), rat.OfInt(-2)},
		{rat.OfInt(3), rat.OfInt(7), rat.OfInt(1)}, {rat.OfInt(-3), rat.OfInt(-7), rat.OfInt(-1)},
		{rat.OfInt(3), rat.OfInt(6), rat.OfInt(0)}, {rat.OfInt(0), frac(-7, 3), frac(-7, 3)},
		{rat.OfInt(1), frac(-7, 3), frac(2, 3)}, {frac(1, 2), frac(7, 3), frac(1, 3)}, {rat.OfInt(5), rat.OfInt(0), rat.OfInt(0)},
	}
	for _, c := range cases {
		if got, e := rat.Residue(c.x, c.y); e != api.OK || !equal(got, c.want) {
			t.Error(c, got, e)
		}
	}
}

// TestResidueLimits goes on numbers with great common divisors, of which the quotient fits and what comes behind does not.
func TestResidueLimits(t *testing.T) { // P2.4
	var seen [5]int
	one := big.NewInt(1)
	d := dice(2463534242)
	for range 1500 {
		g := new(big.Int).Add(d.whole(600), one)
		num := new(big.Int).Mul(g, new(big.Int).Add(d.whole(300), one))
		x := new(big.Rat).SetFrac(num, new(big.Int).Add(d.whole(700), one))
		y := new(big.Rat).SetFrac(new(big.Int).Mul(g, d.whole(500)), new(big.Int).Add(d.whole(400), one))
		if fits(x) && fits(y) {
			seen[checkResidue(t, ofBig(x), ofBig(y))]++
		}
	}
	// The floor of what fits does fit.
	if seen[0] == 0 || seen[2] == 0 || seen[3] == 0 || seen[4] == 0 {
		t.Error("not all limits came up", seen)
	}
}

func bigPower(x *big.Rat, n int) *big.Rat {
	out := big.NewRat(1, 1)
	for range max(n, -n) {
		out.Mul(out, x)
	}
	if n < 0 {
		out.Inv(out)
	}
	return out
}

func TestPower(t *testing.T) { // P2.4
	for _, x := range samples() {
		for n := -6; n <= 6; n++ {
			got, e := rat.Power(x, rat.OfInt(n))
			if rat.Sign(x) == 0 && n < 0 {
				expect(t, "0 below", got, e, nil, api.Domain)
				continue
			}
			expect(t, n, got, e, bigPower(toBig(x), n), 0)
		}
		for _, y := range []api.Rat{frac(1, 2), frac(-3, 2), frac(1, 1000)} {
			got, e := rat.Power(x, y)
			expect(t, "not whole", got, e, nil, api.Domain)
		}
	}
	for n := 1020; n <= 1027; n++ {
		for _, x := range []int64{2, -2} {
			for _, sign := range []int{1, -1} {
				got, e := rat.Power(rat.OfInt(int(x)), rat.OfInt(sign*n))
				expect(t, n, got, e, bigPower(big.NewRat(x, 1), sign*n), 0)
			}
		}
	}
}

// TestPowerOfGreat would not end if numbers were taken one by one as often as y says.
func TestPowerOfGreat(t *testing.T) { // P2.4, P5
	most := greatest()
	exponents := []*big.Int{big.NewInt(math.MaxInt64), power(2, 63), power(2, 64), most, new(big.Int).Sub(most, big.NewInt(1))}
	for _, n := range exponents {
		up := ofBig(new(big.Rat).SetInt(n))
		down, _ := rat.Neg(up)
		for _, y := range []api.Rat{up, down} {
			for _, x := range []api.Rat{rat.OfInt(2), rat.OfInt(-2), frac(1, 2), frac(-2, 3)} {
				got, e := rat.Power(x, y)
				expect(t, "great", got, e, nil, api.Limit)
			}
			got, e := rat.Power(rat.OfInt(1), y)
			expect(t, "of 1", got, e, big.NewRat(1, 1), 0)
			got, e = rat.Power(rat.OfInt(-1), y)
			expect(t, "of -1", got, e, big.NewRat(1-2*int64(n.Bit(0)), 1), 0)
		}
		got, e := rat.Power(rat.OfInt(0), up)
		expect(t, "of 0", got, e, big.NewRat(0, 1), 0)
		got, e = rat.Power(rat.OfInt(0), down)
		expect(t, "of 0 below", got, e, nil, api.Domain)
	}
	got, e := rat.Power(rat.OfInt(0), rat.OfInt(0))
	expect(t, "0 and 0", got, e, big.NewRat(1, 1), 0)
	got, e = rat.Power(rat.OfInt(0), frac(-1, 2))
	expect(t, "not whole", got, e, nil, api.Domain)
}

func TestFactorial(t *testing.T) { // P2.4
	for n := range 180 {
		got, e := rat.Factorial(rat.OfInt(n))
		expect(t, n, got, e, new(big.Rat).SetInt(new(big.Int).MulRange(1, int64(n))), 0)
	}
	if _, e := rat.Factorial(rat.OfInt(170)); e != api.OK {
		t.Error("170 fits", e)
	}
	for _, x := range []api.Rat{rat.OfInt(171), rat.OfInt(math.MaxInt), ofBig(new(big.Rat).SetInt(greatest()))} {
		got, e := rat.Factorial(x)
		expect(t, x, got, e, nil, api.Limit)
	}
	for _, x := range []api.Rat{rat.OfInt(-1), frac(1, 2), frac(-1, 2), rat.OfInt(math.MinInt), frac(1001, 2)} {
		got, e := rat.Factorial(x)
		expect(t, x, got, e, nil, api.Domain)
	}
}

func checkBinomial(t *testing.T, x, y int64) {
	t.Helper()
	got, e := rat.Binomial(rat.OfInt(int(x)), rat.OfInt(int(y)))
	want := new(big.Rat)
	if x <= y {
		want.SetInt(new(big.Int).Binomial(y, x))
	}
	expect(t, []int64{x, y}, got, e, want, 0)
}

func TestBinomial(t *testing.T) { // P2.4
	for y := range int64(40) {
		for x := range int64(45) {
			checkBinomial(t, x, y)
		}
	}
	for y := int64(1000); y < 1050; y++ { // here the sets come to have more limbs than may be, and what comes up on the way has more at once
		for _, x := range []int64{0, 1, 2, 300, 400, y/2 - 20, y/2 - 1, y / 2, y/2 + 1, y - 400, y - 2, y - 1, y, y + 1} {
			checkBinomial(t, x, y)
		}
	}
}

func TestBinomialOfGreat(t *testing.T) { // P2.4, P5
	most := greatest()
	great := new(big.Rat).SetInt(most)
	less := func(n int64) api.Rat { return ofBig(new(big.Rat).Sub(great, big.NewRat(n, 1))) }
	for _, y := range []api.Rat{ofBig(great)} {
		for _, x := range []api.Rat{rat.OfInt(0), less(0)} {
			got, e := rat.Binomial(x, y)
			expect(t, "0 of all", got, e, big.NewRat(1, 1), 0)
		}
		for _, x := range []api.Rat{rat.OfInt(1), less(1)} {
			got, e := rat.Binomial(x, y)
			expect(t, "1 of all", got, e, great, 0)
		}
		for _, x := range []api.Rat{rat.OfInt(2), less(2), rat.OfInt(math.MaxInt), ofBig(new(big.Rat).SetInt(power(2, 1023)))} {
			got, e := rat.Binomial(x, y)
			expect(t, "too many", got, e, nil, api.Limit)
		}
		got, e := rat.Binomial(y, less(1))
		expect(t, "more than all", got, e, big.NewRat(0, 1), 0)
	}
	// y (y-1) has more limbs than may be, half of it has not.
	y := new(big.Int).Sqrt(new(big.Int).Lsh(most, 1))
	got, e := rat.Binomial(rat.OfInt(2), ofBig(new(big.Rat).SetInt(y)))
	want := new(big.Int).Mul(y, new(big.Int).Sub(y, big.NewInt(1)))
	expect(t, "pairs", got, e, new(big.Rat).SetInt(want.Rsh(want, 1)), 0)
	if e != api.OK {
		t.Error("pairs do fit")
	}
}

func TestBinomialDomain(t *testing.T) { // P2.4
	for _, bad := range []api.Rat{rat.OfInt(-1), frac(1, 2), frac(-1, 2), rat.OfInt(math.MinInt)} {
		for _, x := range []api.Rat{rat.OfInt(0), rat.OfInt(5), bad} {
			got, e := rat.Binomial(bad, x)
			expect(t, "first", got, e, nil, api.Domain)
			got, e = rat.Binomial(x, bad)
			expect(t, "second", got, e, nil, api.Domain)
		}
	}
}
