package nat_test

import (
	"math"
	"math/big"
	"slices"
	"strings"
	"testing"

	"glyph/nat"
)

// dice is a row of numbers that is the same at every run.
type dice uint64

func (d *dice) next() uint64 {
	*d ^= *d << 13
	*d ^= *d >> 7
	*d ^= *d << 17
	return uint64(*d)
}

// limbs are up to n limbs, many of them all noughts or all ones: there carries and borrows go far.
func (d *dice) limbs(n int) []uint32 {
	out := make([]uint32, d.next()%uint64(n+1))
	for i := range out {
		switch d.next() % 4 {
		case 0:
			out[i] = 0
		case 1:
			out[i] = math.MaxUint32
		default:
			out[i] = uint32(d.next())
		}
	}
	return out
}

func toBig(a []uint32) *big.Int {
	n := new(big.Int)
	for i := len(a) - 1; i >= 0; i-- {
		n.Lsh(n, 32)
		n.Add(n, big.NewInt(int64(a[i])))
	}
	return n
}

func fromBig(n *big.Int) []uint32 {
	var out []uint32
	for rest := new(big.Int).Set(n); rest.Sign() > 0; rest.Rsh(rest, 32) {
		out = append(out, uint32(new(big.Int).And(rest, big.NewInt(math.MaxUint32)).Uint64()))
	}
	return out
}

// same tells whether got is just the right limbs of want.
func same(got []uint32, want *big.Int) bool {
	return slices.Equal(got, fromBig(want))
}

// samples are numbers at the edges, right and not right, and some others.
func samples() [][]uint32 {
	out := [][]uint32{
		nil, {}, {0}, {0, 0, 0}, {1}, {1, 0}, {1, 0, 0}, {2}, {3, 0}, {7}, {10}, {12}, {18},
		{999999999}, {1000000000}, {math.MaxUint32}, {math.MaxUint32, 0},
		{0, 1}, {0, 1, 0}, {1, 1}, {math.MaxUint32, math.MaxUint32},
		{math.MaxUint32, 0x7fffffff}, {0, 0x80000000}, {1, 0x80000000},
		{0, 0, 1}, {math.MaxUint32, math.MaxUint32, math.MaxUint32},
		// Dividends and divisors where a first guess of a limb is too great, by 1 and by 2.
		{0, 0, 0x80000000, 0x7fffffff}, {1, 0, 0x80000000},
		{0, 0xfffffffe, 0x80000000}, {0xffffffff, 0x80000000},
		{3, 0, 0x80000000}, {1, 0, 0x20000000}, {0, 0, 0x8000, 0x7fff},
		{0, 0xffff0000, 0xffffffff, 0x7fffffff}, {0xffffffff, 0xffffffff, 0x80000000},
	}
	d := dice(88172645463325252)
	for range 60 {
		out = append(out, d.limbs(9))
	}
	return out
}

// pairs hands every two of the samples to check.
func pairs(check func(a, b []uint32)) {
	all := samples()
	for _, a := range all {
		for _, b := range all {
			check(a, b)
		}
	}
}

func TestOf(t *testing.T) { // P1.1
	for _, n := range []uint64{0, 1, 7, math.MaxUint32, 1 << 32, 1<<32 + 1, 1 << 63, math.MaxUint64} {
		if got := nat.Of(n); !same(got, new(big.Int).SetUint64(n)) {
			t.Error(n, got)
		}
	}
	if !slices.Equal(nat.Of(1<<32), []uint32{0, 1}) || len(nat.Of(0)) != 0 {
		t.Error("2^32, 0")
	}
}

func TestRight(t *testing.T) { // P1.1
	for _, a := range [][]uint32{nil, {}, {1}, {0, 1}, {0, 0, 5}} {
		if !nat.Right(a) {
			t.Error(a)
		}
	}
	for _, a := range [][]uint32{{0}, {0, 0}, {1, 0}, {0, 1, 0}} {
		if nat.Right(a) {
			t.Error(a)
		}
	}
}

func TestTrim(t *testing.T) { // P1.1
	for _, a := range samples() {
		if got := nat.Trim(a); !same(got, toBig(a)) || !nat.Right(got) {
			t.Error(a, got)
		}
	}
}

func TestSmall(t *testing.T) { // P1.1
	most := big.NewInt(math.MaxInt64)
	for _, a := range samples() {
		want := toBig(a)
		n, ok := nat.Small(a)
		if ok != (want.Cmp(most) <= 0) || ok && int64(n) != want.Int64() || !ok && n != 0 {
			t.Error(a, n, ok)
		}
	}
	if n, ok := nat.Small([]uint32{math.MaxUint32, 0x7fffffff, 0}); !ok || n != math.MaxInt64 {
		t.Error("2^63 - 1", n, ok)
	}
	if n, ok := nat.Small([]uint32{0, 0x80000000}); ok || n != 0 {
		t.Error("2^63", n, ok)
	}
}

func TestCompare(t *testing.T) { // P1.1
	pairs(func(a, b []uint32) {
		if got := nat.Compare(a, b); got != toBig(a).Cmp(toBig(b)) {
			t.Error(a, b, got)
		}
	})
}

func TestBits(t *testing.T) { // P1.1
	for _, a := range samples() {
		if got := nat.Bits(a); got != toBig(a).BitLen() {
			t.Error(a, got)
		}
	}
	if nat.Bits(nil) != 0 || nat.Bits([]uint32{0, 1, 0}) != 33 {
		t.Error("0, 2^32")
	}
}

func TestSumProduct(t *testing.T) { // P1.2, P1.4
	pairs(func(a, b []uint32) {
		x, y := toBig(a), toBig(b)
		if got := nat.Sum(a, b); !same(got, new(big.Int).Add(x, y)) || !slices.Equal(got, nat.Sum(b, a)) {
			t.Error("sum", a, b, got)
		}
		if got := nat.Product(a, b); !same(got, new(big.Int).Mul(x, y)) || !slices.Equal(got, nat.Product(b, a)) {
			t.Error("product", a, b, got)
		}
	})
}

func TestSumProductOfMany(t *testing.T) { // P1.2, P1.4
	if len(nat.Sum()) != 0 || !slices.Equal(nat.Product(), []uint32{1}) {
		t.Error("of none", nat.Sum(), nat.Product())
	}
	sum, product := new(big.Int), big.NewInt(1)
	var l [][]uint32
	for _, a := range samples() {
		if got := nat.Sum(a); !same(got, toBig(a)) {
			t.Error("sum of one", a, got)
		}
		if got := nat.Product(a); !same(got, toBig(a)) {
			t.Error("product of one", a, got)
		}
		if len(nat.Trim(a)) > 0 {
			l = append(l, a)
			sum.Add(sum, toBig(a))
			product.Mul(product, toBig(a))
		}
	}
	for range 2 {
		if !same(nat.Sum(l...), sum) || !same(nat.Product(l...), product) {
			t.Error("of many")
		}
		slices.Reverse(l)
	}
	if got := nat.Product(append(l, nil)...); len(got) != 0 {
		t.Error("by 0", got)
	}
}

func TestMinus(t *testing.T) { // P1.2
	pairs(func(a, b []uint32) {
		want := new(big.Int).Sub(toBig(a), toBig(b))
		got, ok := nat.Minus(a, b)
		if ok != (want.Sign() >= 0) || ok && !same(got, want) || !ok && got != nil {
			t.Error(a, b, got, ok)
		}
	})
}

func checkDivMod(t *testing.T, a, b []uint32) {
	t.Helper()
	q, r, ok := nat.DivMod(a, b)
	if len(nat.Trim(b)) == 0 {
		if ok || q != nil || r != nil {
			t.Error("by 0", a, b, q, r, ok)
		}
		return
	}
	wantQ, wantR := new(big.Int).QuoRem(toBig(a), toBig(b), new(big.Int))
	if !ok || !same(q, wantQ) || !same(r, wantR) {
		t.Error(a, b, q, r, ok)
	}
	if nat.Compare(nat.Sum(nat.Product(q, b), r), a) != 0 || nat.Compare(r, b) >= 0 {
		t.Error("q b and the rest", a, b, q, r)
	}
}

func TestDivMod(t *testing.T) { // P1.2, P1.5
	pairs(func(a, b []uint32) { checkDivMod(t, a, b) })
	d := dice(2463534242)
	for range 20000 {
		checkDivMod(t, d.limbs(12), d.limbs(6))
	}
}

func TestDivModTakesBack(t *testing.T) { // P1.5
	pairs(func(a, b []uint32) {
		if q, r, ok := nat.DivMod(nat.Product(a, b), b); ok && (nat.Compare(q, a) != 0 || len(r) != 0) {
			t.Error(a, b, q, r)
		}
	})
}

func TestGcd(t *testing.T) { // P1.2, P1.7
	pairs(func(a, b []uint32) {
		g := nat.Gcd(a, b)
		if !same(g, new(big.Int).GCD(nil, nil, toBig(a), toBig(b))) {
			t.Error(a, b, g)
		}
		if len(g) == 0 {
			return
		}
		x, restX, _ := nat.DivMod(a, g)
		y, restY, _ := nat.DivMod(b, g)
		if len(restX)+len(restY) != 0 || !slices.Equal(nat.Gcd(x, y), []uint32{1}) {
			t.Error("divides both", a, b, g)
		}
	})
}

func TestGcdOfMany(t *testing.T) { // P1.2
	for _, l := range [][][]uint32{{}, {nil}, {nil, nil}, {{0, 0}, {}, {0}}} {
		if g := nat.Gcd(l...); len(g) != 0 {
			t.Error(l, g)
		}
	}
	cases := []struct {
		want uint64
		l    []uint64
	}{{6, []uint64{12, 18}}, {12, []uint64{12}}, {12, []uint64{0, 12}}, {12, []uint64{12, 0}}, {2, []uint64{12, 18, 8}}, {5, []uint64{0, 10, 0, 15, 0}}, {1, []uint64{6, 10, 15}}, {1 << 40, []uint64{1 << 40, 3 << 41, 1 << 63}}}
	for _, c := range cases {
		var l [][]uint32
		for _, n := range c.l {
			l = append(l, append(nat.Of(n), 0))
		}
		if g := nat.Gcd(l...); !slices.Equal(g, nat.Of(c.want)) {
			t.Error(c.l, g)
		}
	}
}

func TestPower(t *testing.T) { // P1.2
	for _, a := range samples() {
		for _, n := range []int{0, 1, 2, 3, 4, 5, 7, 8, 13} {
			want := new(big.Int).Exp(toBig(a), big.NewInt(int64(n)), nil)
			limbs := len(fromBig(want))
			for _, most := range []int{limbs, limbs + 1, limbs + 100, math.MaxInt} {
				if got, ok := nat.Power(a, n, most); !ok || !same(got, want) {
					t.Error(a, n, most, got, ok)
				}
			}
			for _, most := range []int{limbs - 1, limbs / 2, 0, -1, math.MinInt} {
				if got, ok := nat.Power(a, n, most); most < limbs && (ok || got != nil) {
					t.Error("too great", a, n, most, got, ok)
				}
			}
		}
	}
}

func TestPowerBelow(t *testing.T) { // P1.2
	for _, a := range samples() {
		for _, n := range []int{-1, -2, math.MinInt} {
			if got, ok := nat.Power(a, n, 100); ok || got != nil {
				t.Error(a, n, got, ok)
			}
		}
	}
}

// TestPowerAhead would not end if the limit were asked behind the work.
func TestPowerAhead(t *testing.T) { // P5
	for _, n := range []int{1 << 40, 1 << 62, math.MaxInt} {
		for _, most := range []int{0, 1, 32, math.MaxInt} {
			for _, a := range [][]uint32{{2}, {3, 0}, {0, 0, 9}} {
				if got, ok := nat.Power(a, n, most); ok || got != nil {
					t.Error(a, n, most)
				}
			}
		}
		if got, ok := nat.Power([]uint32{1, 0}, n, 1); !ok || !slices.Equal(got, []uint32{1}) {
			t.Error("of 1", got, ok)
		}
		if got, ok := nat.Power([]uint32{0}, n, 0); !ok || len(got) != 0 {
			t.Error("of 0", got, ok)
		}
		if _, ok := nat.Power([]uint32{1}, n, 0); ok {
			t.Error("1 has a limb")
		}
	}
	for _, a := range [][]uint32{{16}, {256}} { // 2^64 bits and 2^65: the count itself must not go round
		if got, ok := nat.Power(a, 1<<62, 32); ok || got != nil {
			t.Error(a, "to the power of 2^62", got)
		}
	}
	if _, ok := nat.Power(nat.Of(2), 1023, 32); !ok {
		t.Error("2^1023 has 32 limbs")
	}
	if _, ok := nat.Power(nat.Of(2), 1024, 32); ok {
		t.Error("2^1024 has 33 limbs")
	}
}

func TestPrint(t *testing.T) { // P1.3, P1.6, E6
	numbers := samples()
	ten := big.NewInt(10)
	for n := range int64(40) {
		p := new(big.Int).Exp(ten, big.NewInt(n), nil)
		numbers = append(numbers, fromBig(p), fromBig(new(big.Int).Sub(p, big.NewInt(1))), fromBig(new(big.Int).Add(p, ten)))
	}
	for _, a := range numbers {
		s := nat.Print(a)
		if s != toBig(a).String() {
			t.Error(a, s)
		}
		if b, ok := nat.Parse(s); !ok || !slices.Equal(b, nat.Trim(a)) {
			t.Error("there and back", a, s, b, ok)
		}
	}
	if nat.Print(nil) != "0" || nat.Print(nat.Of(1000)) != "1000" || nat.Print([]uint32{0, 0}) != "0" {
		t.Error("0, 1000")
	}
}

func TestParse(t *testing.T) { // P1.3
	for s, want := range map[string]uint64{"0": 0, "000": 0, "7": 7, "007": 7, "1000": 1000, "4294967296": 1 << 32, "000000000000000000000001": 1, "18446744073709551615": math.MaxUint64} {
		if a, ok := nat.Parse(s); !ok || !slices.Equal(a, nat.Of(want)) {
			t.Error(s, a, ok)
		}
	}
	long := strings.Repeat("9876543210", 30)
	want, _ := new(big.Int).SetString(long, 10)
	if a, ok := nat.Parse("0" + long); !ok || !same(a, want) {
		t.Error("long", a, ok)
	}
	for _, s := range []string{"", " ", "+1", "-1", " 1", "1 ", "1.0", "1r2", "12a", "a12", "1_000", "0x10", "¯1", "١", "12\x00", "\xff", "1234567890/", "1234567890:", "1\n", "123456789 123456789"} {
		if a, ok := nat.Parse(s); ok || a != nil {
			t.Errorf("%q %v %v", s, a, ok)
		}
	}
}

// calls are all that are handed two numbers, each with what it answers as lists.
func calls() map[string]func(a, b []uint32) [][]uint32 {
	return map[string]func(a, b []uint32) [][]uint32{
		"Trim":    func(a, b []uint32) [][]uint32 { return [][]uint32{nat.Trim(a), nat.Trim(b)} },
		"Sum1":    func(a, b []uint32) [][]uint32 { return [][]uint32{nat.Sum(a), nat.Sum(b)} },
		"Sum":     func(a, b []uint32) [][]uint32 { return [][]uint32{nat.Sum(a, b)} },
		"Prod1":   func(a, b []uint32) [][]uint32 { return [][]uint32{nat.Product(a), nat.Product(b)} },
		"Product": func(a, b []uint32) [][]uint32 { return [][]uint32{nat.Product(a, b)} },
		"Gcd1":    func(a, b []uint32) [][]uint32 { return [][]uint32{nat.Gcd(a), nat.Gcd(b)} },
		"Gcd":     func(a, b []uint32) [][]uint32 { return [][]uint32{nat.Gcd(a, b)} },
		"Minus": func(a, b []uint32) [][]uint32 {
			d, _ := nat.Minus(a, b)
			return [][]uint32{d}
		},
		"DivMod": func(a, b []uint32) [][]uint32 {
			q, r, _ := nat.DivMod(a, b)
			return [][]uint32{q, r}
		},
		"Power": func(a, b []uint32) [][]uint32 {
			p, _ := nat.Power(a, len(b), 40)
			return [][]uint32{p}
		},
		"Told": func(a, b []uint32) [][]uint32 {
			nat.Right(a)
			nat.Small(a)
			nat.Compare(a, b)
			nat.Bits(a)
			nat.Print(a)
			return nil
		},
	}
}

// roomy is limbs with spare room behind their end that is not to be written into.
func roomy(a []uint32) []uint32 {
	whole := append(slices.Clone(a), 5, 6, 7, 8)
	return whole[:len(a)]
}

func whole(a []uint32) []uint32 {
	return a[:cap(a)]
}

func TestNothingShared(t *testing.T) { // P2, P3, P6
	all := samples()
	for name, call := range calls() {
		for i, a := range all {
			a, b := roomy(a), roomy(all[(i*7+3)%len(all)])
			wasA, wasB := slices.Clone(whole(a)), slices.Clone(whole(b))
			answer, again := call(a, b), call(a, b)
			for k, l := range answer {
				if !slices.Equal(l, again[k]) || !nat.Right(l) {
					t.Error(name, "answers another thing, or what is not right", a, b, l, again[k])
				}
				kept := slices.Clone(l)
				for i := range whole(l) {
					whole(l)[i] ^= 0x55555555
				}
				for j, other := range answer {
					if j > k && !slices.Equal(other, again[j]) {
						t.Error(name, "lists of one answer share", a, b)
					}
				}
				if !slices.Equal(again[k], kept) {
					t.Error(name, "answers share", a, b)
				}
			}
			if !slices.Equal(whole(a), wasA) || !slices.Equal(whole(b), wasB) {
				t.Error(name, "changed what was handed in", wasA, wasB)
			}
		}
	}
}

func TestListHandedInStays(t *testing.T) { // P3
	l := [][]uint32{{4, 0}, {6}, {10}, {0}}[:3]
	want := [][]uint32{{4, 0}, {6}, {10}, {0}}
	nat.Sum(l...)
	nat.Product(l...)
	nat.Gcd(l...)
	if !slices.EqualFunc(l[:4], want, slices.Equal) {
		t.Error(l[:4])
	}
}
