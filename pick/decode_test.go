package pick_test

import (
	"math/big"
	"slices"
	"testing"

	"glyph/api"
	"glyph/pick"
	"glyph/rat"
)

// negative and inverse are of numbers that are not 0.
func negative(x api.Rat) api.Rat {
	x.Below = !x.Below
	return x
}

func inverse(x api.Rat) api.Rat {
	x.Num, x.Den = x.Den, x.Num
	return x
}

func add(x api.Rat, n int) api.Rat {
	out, _ := rat.Add(x, rat.OfInt(n))
	return out
}

// over is a whole number by another one, which have no common divisor.
func over(x, y api.Rat) api.Rat {
	return api.Rat{Below: x.Below, Num: x.Num, Den: y.Num}
}

func rats(l ...api.Rat) api.Array {
	var items []api.Item
	for _, x := range l {
		items = append(items, number(x))
	}
	return vec(items...)
}

// TestDecodeBack is of sums that are too great on the way, and not at the end.
func TestDecodeBack(t *testing.T) { // P7.1
	nought, five, half := rat.OfInt(0), rat.OfInt(5), frac(1, 2)
	great, small, most := power(1000), inverse(power(1000)), allBits()
	run(t, []pairs{
		{rats(five, great, nought), '⊥', rats(great, nought, five), one(num(5)), api.OK},
		{rats(five, great, small), '⊥', rats(great, nought, five), one(number(add(great, 5))), api.OK},
		{rats(five, small, great), '⊥', rats(small, nought, five), one(number(add(small, 5))), api.OK},
		{rats(five, negative(great), small), '⊥', rats(great, nought, five), one(number(add(negative(great), 5))), api.OK},
		{rats(great, great, great, small, small), '⊥', one(num(0)), one(num(0)), api.OK},
		{one(num(2)), '⊥', rats(power(1023), rat.OfInt(-1)), one(number(most)), api.OK}, // the digit brings it back
		{one(num(-2)), '⊥', rats(power(1023), rat.OfInt(1)), one(number(negative(most))), api.OK},
		{one(num(2)), '⊥', rats(power(1023), nought), api.Array{}, api.Limit},
		{rats(five, great, small), '⊥', rats(most, nought, nought), one(number(most)), api.OK},
		{rats(five, great, small), '⊥', rats(most, nought, rat.OfInt(1)), api.Array{}, api.Limit},
		{rats(five, great, small), '⊥', rats(inverse(most), nought, nought), one(number(inverse(most))), api.OK},
		{rats(five, great, small), '⊥', rats(inverse(most), nought, half), api.Array{}, api.Limit},
		{rats(five, great, small), '⊥', rats(over(add(most, -1), most), nought, nought), one(number(over(add(most, -1), most))), api.OK},
		{rats(five, most, inverse(most)), '⊥', rats(most, most, negative(most)), one(num(1)), api.OK},
		{rats(great, great, rat.OfInt(1)), '⊥', one(number(great)), api.Array{}, api.Limit},
		{rats(great, great, nought), '⊥', one(number(great)), one(number(great)), api.OK},
		{rats(nought, great, great), '⊥', rats(five, nought, nought), api.Array{}, api.Limit}, // the first radix plays no part, 0 neither
		{rats(nought, great, great), '⊥', rats(nought, nought, five), one(num(5)), api.OK},
	})
}

// TestDecodeManyGreat is of as many great figures as there may be.
func TestDecodeManyGreat(t *testing.T) { // P7.1, P5
	great, third := number(power(1000)), number(frac(1, 3))
	many := func(i api.Item) []api.Item { return slices.Repeat([]api.Item{i}, api.MaxItems) }
	ended := append(many(great)[1:], num(0))
	fractions := make([]api.Item, api.MaxItems)
	for k := range fractions {
		fractions[k] = number(over(add(power(1023), -2*k-1), power(1022+k%2)))
	}
	run(t, []pairs{
		{one(great), '⊥', vec(many(num(1))...), api.Array{}, api.Limit},
		{one(great), '⊥', vec(many(great)...), api.Array{}, api.Limit},
		{vec(many(great)...), '⊥', one(third), api.Array{}, api.Limit},
		{vec(fractions...), '⊥', vec(fractions...), api.Array{}, api.Limit},
		{vec(ended...), '⊥', vec(many(great)...), one(great), api.OK},
		{vec(ended...), '⊥', vec(fractions...), one(fractions[api.MaxItems-1]), api.OK},
		{one(num(0)), '⊥', vec(many(great)...), one(great), api.OK},
		{one(num(1)), '⊥', vec(many(third)...), one(number(frac(api.MaxItems, 3))), api.OK},
		{one(num(-1)), '⊥', vec(many(great)...), one(num(0)), api.OK},
	})
}

// decodedBig is the sum of each digit times all radices behind its own; passes tells whether it is too great somewhere on the way.
func decodedBig(radices, digits []api.Item) (sum *big.Rat, passes bool) {
	sum = new(big.Rat)
	for k := range digits {
		sum.Mul(sum, toBig(radices[k].Num))
		sum.Add(sum, toBig(digits[k].Num))
		passes = passes || !fitsBig(sum)
	}
	return sum, passes
}

func fitsBig(x *big.Rat) bool {
	return max(x.Num().BitLen(), x.Denom().BitLen()) <= 32*api.MaxLimbs
}

// wideFraction has a numerator and a denominator of up to so many limbs.
func wideFraction(d *dice, limbs int) api.Rat {
	whole := func() []uint32 {
		out := make([]uint32, 1+d.next(limbs))
		for k := range out {
			out[k] = uint32(1 + d.next(1<<31))
		}
		return out
	}
	x, _ := rat.Make(d.next(2) == 0, whole(), whole())
	return x
}

// thereAndBack are figures by which a sum goes up, and those that bring it back, one by one: less the digit, by the radix, is the other way round times 1 by the radix, less the digit by it.
func thereAndBack(d *dice, many int) (radices, digits []api.Item) {
	type figure struct{ radix, digit api.Rat }
	var there []figure
	for range many {
		there = append(there, figure{wideFraction(d, 15), wideFraction(d, 15)})
	}
	radices, digits = numItems(1), []api.Item{number(wideFraction(d, 31))}
	for _, f := range there {
		radices, digits = append(radices, number(f.radix)), append(digits, number(f.digit))
	}
	for _, f := range slices.Backward(there) {
		by, _ := rat.Div(rat.OfInt(1), f.radix)
		less, _ := rat.Div(negative(f.digit), f.radix)
		radices, digits = append(radices, number(by)), append(digits, number(less))
	}
	return radices, digits
}

// TestDecodeThereAndBack holds sums that pass the limit and come back, or do not, against rationals of any size.
func TestDecodeThereAndBack(t *testing.T) { // P7.1, P2, P3
	d := dice(362436069)
	back, gone := 0, 0
	for range 150 {
		radices, digits := thereAndBack(&d, 1+d.next(6))
		if d.next(2) == 0 {
			digits[d.next(len(digits))] = number(wideFraction(&d, 31))
		}
		want, passes := decodedBig(radices, digits)
		a, b := roomy(vec(radices...)), roomy(vec(digits...))
		before := snapshot(a) + snapshot(b)
		got, e := pick.Dyadic(env(1), '⊥', a, b)
		if snapshot(a)+snapshot(b) != before {
			t.Fatal("what was handed in has changed")
		}
		if !fitsBig(want) {
			gone++
			expect(t, "gone", got, e, api.Array{}, api.Limit)
			continue
		}
		if passes {
			back++
		}
		if e != api.OK || len(got.Shape) > 0 || toBig(got.Items[0].Num).Cmp(want) != 0 {
			t.Error(radices, digits, got, e)
		}
		apart(t, "a sum", got, a, b)
	}
	if back < 50 || gone < 30 {
		t.Error("too few came back, or did not", back, gone)
	}
}
