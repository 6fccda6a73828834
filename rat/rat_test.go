package rat_test

import (
	"math"
	"math/big"
	"reflect"
	"slices"
	"testing"

	"glyph/api"
	"glyph/rat"
)

// dice is a row of numbers that is the same at every run.
type dice uint64

func (d *dice) next() uint64 {
	*d ^= *d << 13
	*d ^= *d >> 7
	*d ^= *d << 17
	return uint64(*d)
}

// whole is a number of up to n bits.
func (d *dice) whole(n int) *big.Int {
	v := new(big.Int)
	for range n/64 + 1 {
		v.Lsh(v, 64)
		v.Add(v, new(big.Int).SetUint64(d.next()))
	}
	bits := d.next() % uint64(n+1)
	return v.And(v, new(big.Int).Sub(power(2, int(bits)), big.NewInt(1)))
}

func power(a int64, n int) *big.Int {
	return new(big.Int).Exp(big.NewInt(a), big.NewInt(int64(n)), nil)
}

// greatest is the greatest number that MaxLimbs limbs hold.
func greatest() *big.Int {
	return new(big.Int).Sub(power(2, 32*api.MaxLimbs), big.NewInt(1))
}

func limbs(n *big.Int) []uint32 {
	var out []uint32
	for rest := new(big.Int).Abs(n); rest.Sign() > 0; rest.Rsh(rest, 32) {
		out = append(out, uint32(new(big.Int).And(rest, big.NewInt(math.MaxUint32)).Uint64()))
	}
	return out
}

func ofBig(x *big.Rat) api.Rat {
	return api.Rat{Below: x.Sign() < 0, Num: limbs(x.Num()), Den: limbs(x.Denom())}
}

func toBig(x api.Rat) *big.Rat {
	back := func(l []uint32) *big.Int {
		n := new(big.Int)
		for i := len(l) - 1; i >= 0; i-- {
			n.Lsh(n, 32)
			n.Add(n, big.NewInt(int64(l[i])))
		}
		return n
	}
	out := new(big.Rat).SetFrac(back(x.Num), back(x.Den))
	if x.Below {
		out.Neg(out)
	}
	return out
}

func frac(num, den int64) api.Rat {
	return ofBig(big.NewRat(num, den))
}

func fits(x *big.Rat) bool {
	return len(limbs(x.Num())) <= api.MaxLimbs && len(limbs(x.Denom())) <= api.MaxLimbs
}

func equal(x, y api.Rat) bool {
	return x.Below == y.Below && slices.Equal(x.Num, y.Num) && slices.Equal(x.Den, y.Den)
}

// isZero tells whether an answer beside an error has nothing in it.
func isZero(x api.Rat) bool {
	return !x.Below && len(x.Num) == 0 && len(x.Den) == 0
}

// expect holds an answer against what it is to be: want, or, if it is nil, the error e.
func expect(t *testing.T, what any, got api.Rat, gotE api.Errno, want *big.Rat, e api.Errno) {
	t.Helper()
	if want == nil {
		if gotE != e || !isZero(got) {
			t.Error(what, "error", got, gotE, "want", e)
		}
		return
	}
	if !fits(want) {
		if gotE != api.Limit || !isZero(got) {
			t.Error(what, "no limit", got, gotE)
		}
		return
	}
	if gotE != api.OK || !equal(got, ofBig(want)) || !rat.Right(got) {
		t.Error(what, "value", got, gotE, "want", want)
	}
}

// samples are right numbers: at the edges, and some others.
func samples() []api.Rat {
	var out []api.Rat
	add := func(num, den *big.Int) {
		x := new(big.Rat).SetFrac(num, den)
		out = append(out, ofBig(x), ofBig(x.Neg(x)))
	}
	one, most := big.NewInt(1), greatest()
	for _, n := range []int64{0, 1, 2, 7, 12, math.MaxUint32, 1 << 32, math.MaxInt64} {
		for _, d := range []int64{1, 2, 3, 10, 1 << 32} {
			add(big.NewInt(n), big.NewInt(d))
		}
	}
	add(power(2, 63), one)
	add(power(2, 64), one)
	add(power(2, 500), power(3, 300))
	add(most, one)
	add(one, most)
	add(most, new(big.Int).Sub(most, one))
	add(power(2, 1023), one)
	add(one, power(2, 1023))
	add(power(2, 1023), most)
	d := dice(88172645463325252)
	for i := range 12 {
		n := []int{20, 70, 500, 1024}[i%4]
		add(d.whole(n), new(big.Int).Add(d.whole(n-1), one))
	}
	return out
}

// wrong are numbers that are not right, each in another way.
func wrong() []api.Rat {
	long := limbs(power(2, 32*api.MaxLimbs))
	return []api.Rat{
		{},
		{Below: true},
		{Num: []uint32{1}},
		{Num: []uint32{1}, Den: []uint32{}},
		{Num: []uint32{1}, Den: []uint32{0}},
		{Num: []uint32{0}, Den: []uint32{1}},
		{Num: []uint32{1, 0}, Den: []uint32{1}},
		{Num: []uint32{1}, Den: []uint32{1, 0}},
		{Num: []uint32{2}, Den: []uint32{4}},
		{Num: []uint32{0, 1}, Den: []uint32{0, 1}},
		{Num: nil, Den: []uint32{2}},
		{Below: true, Num: nil, Den: []uint32{1}},
		{Num: long, Den: []uint32{1}},
		{Num: []uint32{1}, Den: long},
		{Num: append(limbs(greatest()), 0), Den: []uint32{1}},
	}
}

// some are fewer samples, for calls of three numbers.
func some() []api.Rat {
	var out []api.Rat
	for i, x := range samples() {
		if i%9 < 2 {
			out = append(out, x)
		}
	}
	return out
}

func pairs(check func(x, y api.Rat)) {
	all := samples()
	for _, x := range all {
		for _, y := range all {
			check(x, y)
		}
	}
}

func TestOfInt(t *testing.T) { // P2.1
	for _, n := range []int{0, 1, -1, 7, -7, math.MaxUint32, 1 << 32, -1 << 32, math.MaxInt, math.MinInt, math.MinInt + 1} {
		x := rat.OfInt(n)
		if !equal(x, ofBig(big.NewRat(int64(n), 1))) || !rat.Right(x) {
			t.Error(n, x)
		}
	}
}

func TestRight(t *testing.T) { // P2.1
	for _, x := range samples() {
		if !rat.Right(x) {
			t.Error(x)
		}
	}
	for _, x := range wrong() {
		if rat.Right(x) {
			t.Error(x)
		}
	}
	if !rat.Right(api.Rat{Num: []uint32{}, Den: []uint32{1}}) {
		t.Error("0 as an empty list")
	}
}

func TestMake(t *testing.T) { // P2.1
	most, over := greatest(), power(2, 32*api.MaxLimbs)
	numbers := []*big.Int{big.NewInt(0), big.NewInt(1), big.NewInt(6), big.NewInt(10), big.NewInt(1 << 40), power(2, 1023), most, over, new(big.Int).Mul(over, big.NewInt(6)), power(2, 3000), power(6, 900)}
	for _, num := range numbers {
		for _, den := range numbers {
			for _, below := range []bool{false, true} {
				n, d := append(limbs(num), 0), append(limbs(den), 0, 0)
				got, e := rat.Make(below, n, d)
				if den.Sign() == 0 {
					expect(t, "by 0", got, e, nil, api.ErrForm)
					continue
				}
				want := new(big.Rat).SetFrac(num, den)
				if below {
					want.Neg(want)
				}
				expect(t, want, got, e, want, 0)
			}
		}
	}
	for _, den := range [][]uint32{nil, {}, {0}, {0, 0}} {
		got, e := rat.Make(true, limbs(over), den)
		expect(t, den, got, e, nil, api.ErrForm)
	}
	if x, e := rat.Make(true, nil, []uint32{5}); e != api.OK || x.Below || !equal(x, rat.OfInt(0)) {
		t.Error("0 is not below", x, e)
	}
}

func TestAddMulOfTwo(t *testing.T) { // P2.2, P2.6, E2
	pairs(func(x, y api.Rat) {
		got, e := rat.Add(x, y)
		expect(t, "add", got, e, new(big.Rat).Add(toBig(x), toBig(y)), 0)
		if turned, turnedE := rat.Add(y, x); !equal(got, turned) || e != turnedE {
			t.Error("add turned about", x, y)
		}
		if back, backE := rat.Sub(got, y); e == api.OK && (backE != api.OK || !equal(back, x)) {
			t.Error("add taken back", x, y, back, backE)
		}
		got, e = rat.Mul(x, y)
		expect(t, "mul", got, e, new(big.Rat).Mul(toBig(x), toBig(y)), 0)
		if turned, turnedE := rat.Mul(y, x); !equal(got, turned) || e != turnedE {
			t.Error("mul turned about", x, y)
		}
		if back, backE := rat.Div(got, y); e == api.OK && rat.Sign(y) != 0 && (backE != api.OK || !equal(back, x)) {
			t.Error("mul taken back", x, y, back, backE)
		}
	})
}

func TestAddMulOfMany(t *testing.T) { // P2.2
	got, e := rat.Add()
	expect(t, "add none", got, e, big.NewRat(0, 1), 0)
	got, e = rat.Mul()
	expect(t, "mul none", got, e, big.NewRat(1, 1), 0)
	for _, x := range samples() {
		got, e = rat.Add(x)
		expect(t, "add one", got, e, toBig(x), 0)
		got, e = rat.Mul(x)
		expect(t, "mul one", got, e, toBig(x), 0)
	}
	l := []api.Rat{frac(1, 2), frac(1, 3), frac(-1, 6), frac(5, 7), rat.OfInt(-4)}
	got, e = rat.Add(l...)
	expect(t, "add many", got, e, big.NewRat(-55, 21), 0)
	got, e = rat.Mul(l...)
	expect(t, "mul many", got, e, big.NewRat(5, 63), 0)
}

func TestLimitOnTheWay(t *testing.T) { // P2.2
	most := ofBig(new(big.Rat).SetInt(greatest()))
	less, _ := rat.Neg(most)
	tiny, _ := rat.Div(rat.OfInt(1), most)
	got, e := rat.Add(most, most, less)
	expect(t, "add", got, e, nil, api.Limit)
	got, e = rat.Add(most, less, most)
	expect(t, "add in another order", got, e, toBig(most), 0)
	got, e = rat.Mul(most, most, tiny)
	expect(t, "mul", got, e, nil, api.Limit)
	got, e = rat.Mul(most, most, rat.OfInt(0))
	expect(t, "mul by 0", got, e, nil, api.Limit)
	got, e = rat.Mul(most, rat.OfInt(0), most)
	expect(t, "mul of 0", got, e, big.NewRat(0, 1), 0)
	got, e = rat.Add(most, rat.OfInt(1))
	expect(t, "one more", got, e, nil, api.Limit)
	got, e = rat.Add(tiny, rat.OfInt(1))
	expect(t, "1 and a little", got, e, nil, api.Limit)
	for _, x := range wrong() { // named ahead of Limit
		got, e = rat.Add(most, most, x)
		expect(t, "add", got, e, nil, api.ErrForm)
		got, e = rat.Mul(x, most, most)
		expect(t, "mul", got, e, nil, api.ErrForm)
	}
}

func TestSubDiv(t *testing.T) { // P2.2, P2.6
	pairs(func(x, y api.Rat) {
		got, e := rat.Sub(x, y)
		expect(t, "sub", got, e, new(big.Rat).Sub(toBig(x), toBig(y)), 0)
		got, e = rat.Div(x, y)
		switch {
		case rat.Sign(y) != 0:
			expect(t, "div", got, e, new(big.Rat).Quo(toBig(x), toBig(y)), 0)
		case rat.Sign(x) != 0:
			expect(t, "div by 0", got, e, nil, api.Domain)
		default:
			expect(t, "0 by 0", got, e, big.NewRat(1, 1), 0)
		}
	})
}

func floor(x *big.Rat) *big.Rat {
	// Div is Euclid's: with a denominator above 0 it is the floor.
	return new(big.Rat).SetInt(new(big.Int).Div(x.Num(), x.Denom()))
}

func TestOfOneNumber(t *testing.T) { // P2.2, P2.8
	for _, x := range samples() {
		v := toBig(x)
		got, e := rat.Neg(x)
		expect(t, "neg", got, e, new(big.Rat).Neg(v), 0)
		got, e = rat.Abs(x)
		expect(t, "abs", got, e, new(big.Rat).Abs(v), 0)
		got, e = rat.Floor(x)
		expect(t, "floor", got, e, floor(v), 0)
		if away, _ := rat.Sub(x, got); rat.Sign(away) < 0 || rat.Compare(away, rat.OfInt(1)) >= 0 {
			t.Error("floor is too far", x, got)
		}
		got, e = rat.Ceil(x)
		up := floor(new(big.Rat).Neg(v))
		expect(t, "ceil", got, e, up.Neg(up), 0)
		if rat.Sign(x) != v.Sign() || rat.IsInt(x) != v.IsInt() {
			t.Error("sign, is int", x)
		}
	}
}

func TestToInt(t *testing.T) { // P2.2
	for _, x := range samples() {
		v := toBig(x)
		n, ok := rat.ToInt(x)
		want := v.IsInt() && v.Num().IsInt64()
		if ok != want || ok && int64(n) != v.Num().Int64() || !ok && n != 0 {
			t.Error(x, n, ok)
		}
	}
	for _, want := range []int{math.MinInt, math.MinInt + 1, -1, 0, 1, math.MaxInt} {
		if n, ok := rat.ToInt(rat.OfInt(want)); !ok || n != want {
			t.Error(want, n, ok)
		}
	}
	for _, below := range []bool{false, true} {
		x := api.Rat{Below: below, Num: []uint32{1, 0x80000000}, Den: []uint32{1}}
		if n, ok := rat.ToInt(x); ok || n != 0 {
			t.Error("2^63 + 1", below, n)
		}
	}
}

func TestCompare(t *testing.T) { // P2.3, P2.10
	pairs(func(x, y api.Rat) {
		want := toBig(x).Cmp(toBig(y))
		if got := rat.Compare(x, y); got != want {
			t.Error(x, y, got)
		}
		if got := rat.Tolerant(rat.OfInt(0), x, y); got != want {
			t.Error("tolerance 0", x, y, got)
		}
	})
}

func tolerant(ct, x, y *big.Rat) int {
	apart := new(big.Rat).Sub(x, y)
	most, other := new(big.Rat).Abs(x), new(big.Rat).Abs(y)
	if most.Cmp(other) < 0 {
		most = other
	}
	if apart.Abs(apart).Cmp(most.Mul(most, ct)) <= 0 {
		return 0
	}
	return x.Cmp(y)
}

func TestTolerant(t *testing.T) { // P2.3, P2.10
	tolerances := []api.Rat{rat.OfInt(0), rat.OfInt(1), rat.OfInt(2), frac(1, 2), frac(1, 10), frac(-1, 2), rat.OfInt(-3), ofBig(new(big.Rat).SetFrac(big.NewInt(1), greatest())), ofBig(new(big.Rat).SetFrac(greatest(), power(2, 1023)))}
	for _, ct := range tolerances {
		for _, x := range some() {
			for _, y := range some() {
				got := rat.Tolerant(ct, x, y)
				if got != tolerant(toBig(ct), toBig(x), toBig(y)) || got != -rat.Tolerant(ct, y, x) {
					t.Error(ct, x, y, got)
				}
			}
		}
	}
	cases := []struct {
		x, y api.Rat
		want int
	}{{rat.OfInt(9), rat.OfInt(10), 0}, {rat.OfInt(10), rat.OfInt(9), 0}, {frac(89, 10), rat.OfInt(10), -1}, {rat.OfInt(10), frac(89, 10), 1}, {rat.OfInt(-9), rat.OfInt(-10), 0}, {rat.OfInt(-11), rat.OfInt(-9), -1}, {rat.OfInt(0), frac(1, 1000), -1}}
	for _, c := range cases {
		if got := rat.Tolerant(frac(1, 10), c.x, c.y); got != c.want {
			t.Error(c, got)
		}
	}
}

// errorCalls are the calls with an error, each of two numbers at least.
func errorCalls() map[string]func(x, y api.Rat) (api.Rat, api.Errno) {
	type two = func(x, y api.Rat) (api.Rat, api.Errno)
	type one = func(x api.Rat) (api.Rat, api.Errno)
	out := map[string]two{
		"Add": func(x, y api.Rat) (api.Rat, api.Errno) { return rat.Add(x, y) },
		"Mul": func(x, y api.Rat) (api.Rat, api.Errno) { return rat.Mul(x, y) },
		"Sub": rat.Sub, "Div": rat.Div, "Residue": rat.Residue, "Power": rat.Power, "Binomial": rat.Binomial,
	}
	for name, call := range map[string]one{"Neg": rat.Neg, "Abs": rat.Abs, "Floor": rat.Floor, "Ceil": rat.Ceil, "Factorial": rat.Factorial} {
		out[name] = func(x, y api.Rat) (api.Rat, api.Errno) {
			if !rat.Right(y) {
				return call(y)
			}
			return call(x)
		}
	}
	return out
}

func TestWrongNumbers(t *testing.T) { // P1, P2 of the whole; the chapter's 'Words'
	for name, call := range errorCalls() {
		for _, x := range wrong() {
			for _, y := range append(some(), wrong()...) {
				got, e := call(x, y)
				expect(t, name, got, e, nil, api.ErrForm)
				got, e = call(y, x)
				expect(t, name, got, e, nil, api.ErrForm)
			}
		}
	}
	one, two := rat.OfInt(1), rat.OfInt(2)
	for _, x := range wrong() {
		if n, ok := rat.ToInt(x); ok || n != 0 || rat.Sign(x) != 0 || rat.IsInt(x) || rat.Print(x) != "" {
			t.Error("told of", x)
		}
		if rat.Compare(x, one) != 0 || rat.Compare(one, x) != 0 {
			t.Error("compare", x)
		}
		if rat.Tolerant(x, one, two) != 0 || rat.Tolerant(rat.OfInt(0), x, two) != 0 || rat.Tolerant(rat.OfInt(0), one, x) != 0 {
			t.Error("tolerant", x)
		}
	}
}

func roomy(l []uint32) []uint32 {
	return append(slices.Clone(l), 5, 6, 7)[:len(l)]
}

func roomyRat(x api.Rat) api.Rat {
	return api.Rat{Below: x.Below, Num: roomy(x.Num), Den: roomy(x.Den)}
}

// lists are the lists of numbers with the spare room behind their ends.
func lists(numbers ...api.Rat) [][]uint32 {
	var out [][]uint32
	for _, x := range numbers {
		out = append(out, x.Num[:cap(x.Num)], x.Den[:cap(x.Den)])
	}
	return out
}

func copies(l [][]uint32) [][]uint32 {
	var out [][]uint32
	for _, a := range l {
		out = append(out, append([]uint32{}, a...))
	}
	return out
}

func turn(l []uint32) {
	for i := range l {
		l[i] ^= 0x55555555
	}
}

// checkShares tells when two answers of one call, or one and what was handed in, have a list in common.
func checkShares(t *testing.T, name string, call func() (api.Rat, api.Errno), in ...api.Rat) {
	t.Helper()
	was := copies(lists(in...))
	first, e := call()
	second, e2 := call()
	if !equal(first, second) || e != e2 {
		t.Error(name, "answers another thing", in)
	}
	kept := copies(lists(second))
	den := slices.Clone(first.Den)
	turn(first.Num[:cap(first.Num)])
	if !slices.Equal(first.Den, den) {
		t.Error(name, "lists of one answer share", in)
	}
	turn(first.Den[:cap(first.Den)])
	if !reflect.DeepEqual(copies(lists(second)), kept) {
		t.Error(name, "answers share", in)
	}
	if !reflect.DeepEqual(copies(lists(in...)), was) {
		t.Error(name, "changed what was handed in", in)
	}
}

func TestNothingShared(t *testing.T) { // P3, P6
	for name, call := range errorCalls() {
		for _, x := range some() {
			for _, y := range some() {
				x, y := roomyRat(x), roomyRat(y)
				checkShares(t, name, func() (api.Rat, api.Errno) { return call(x, y) }, x, y)
			}
		}
	}
	for _, x := range samples() {
		x := roomyRat(x)
		checkShares(t, "Add of one", func() (api.Rat, api.Errno) { return rat.Add(x) }, x)
		checkShares(t, "Mul of one", func() (api.Rat, api.Errno) { return rat.Mul(x) }, x)
		checkShares(t, "Make", func() (api.Rat, api.Errno) { return rat.Make(x.Below, x.Num, x.Den) }, x)
		checkShares(t, "Residue of 0", func() (api.Rat, api.Errno) { return rat.Residue(rat.OfInt(0), x) }, x)
		checkShares(t, "Power of 1", func() (api.Rat, api.Errno) { return rat.Power(x, rat.OfInt(1)) }, x)
		checkShares(t, "Told", func() (api.Rat, api.Errno) {
			rat.Right(x)
			rat.Sign(x)
			rat.ToInt(x)
			rat.Compare(x, x)
			rat.Tolerant(x, x, x)
			return rat.Parse(rat.Print(x))
		}, x)
	}
	checkShares(t, "OfInt", func() (api.Rat, api.Errno) { return rat.OfInt(12), 0 })
	checkShares(t, "Add of none", func() (api.Rat, api.Errno) { return rat.Add() })
	checkShares(t, "Mul of none", func() (api.Rat, api.Errno) { return rat.Mul() })
}

func TestListHandedInStays(t *testing.T) { // P3
	l := []api.Rat{frac(1, 2), frac(-3, 4), frac(5, 6)}
	if _, e := rat.Add(l[:2]...); e != api.OK {
		t.Error(e)
	}
	if _, e := rat.Mul(l[:2]...); e != api.OK {
		t.Error(e)
	}
	if !equal(l[0], frac(1, 2)) || !equal(l[1], frac(-3, 4)) || !equal(l[2], frac(5, 6)) {
		t.Error(l)
	}
}
