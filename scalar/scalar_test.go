package scalar_test

import (
	"math"
	"math/big"
	"strings"
	"testing"

	"glyph/api"
	"glyph/lex"
	"glyph/rat"
	"glyph/scalar"
)

func TestGlyphs(t *testing.T) { // P5.1
	if got := scalar.Glyphs(); got != "+-×÷⌈⌊|*!~<≤=≥>≠∧∨⍲⍱" {
		t.Error(got)
	}
	check := func(c rune) {
		if got := scalar.IsMonadic(c); got != (c > 0 && strings.Contains(monadic, string(c))) {
			t.Error("of one", c, got)
		}
		if got := scalar.IsDyadic(c); got != (c > 0 && strings.Contains(dyadic, string(c))) {
			t.Error("of two", c, got)
		}
	}
	for c := rune(0); c < 256; c++ {
		check(c)
	}
	for c := rune(0x2190); c < 0x2400; c++ {
		check(c)
	}
	for _, c := range lex.Primitives() {
		check(c)
	}
	for _, c := range noGlyphs() {
		if scalar.IsMonadic(c) || scalar.IsDyadic(c) {
			t.Error(c)
		}
	}
}

func TestIdentity(t *testing.T) { // P5.1
	for _, c := range scalar.Glyphs() + lex.Primitives() + "a0" {
		got, ok := scalar.Identity(c)
		want := 0
		if strings.ContainsRune("×÷*!≤=≥∧", c) {
			want = 1
		}
		if has := strings.ContainsRune("+-|<>≠∨×÷*!≤=≥∧", c); has != ok || has && rat.Compare(got, rat.OfInt(want)) != 0 {
			t.Error(string(c), got, ok)
		}
		if ok && !rat.Right(got) || !ok && (got.Below || got.Num != nil || got.Den != nil) {
			t.Error(string(c), got)
		}
	}
	for _, c := range noGlyphs() {
		if got, ok := scalar.Identity(c); ok || got.Num != nil || got.Den != nil {
			t.Error(c, got, ok)
		}
	}
	x, _ := scalar.Identity('×')
	y, _ := scalar.Identity('×')
	apart(t, "two calls", x, y)
}

// expectNumber asks for a number; if want is nil, for the error.
func expectNumber(t *testing.T, what any, got api.Rat, e api.Errno, want *big.Rat, wantE api.Errno) {
	t.Helper()
	if want != nil && (want.Num().BitLen() > 32*api.MaxLimbs || want.Denom().BitLen() > 32*api.MaxLimbs) {
		want, wantE = nil, api.Limit
	}
	if want == nil {
		if e != wantE || got.Below || got.Num != nil || got.Den != nil {
			t.Error(what, got, e, "want", wantE)
		}
		return
	}
	if e != api.OK || !rat.Right(got) || toBig(got).Cmp(want) != 0 {
		t.Error(what, got, e, "want", want)
	}
}

func whole(x *big.Rat) bool { return x.IsInt() }

func bit(x *big.Rat) bool { return x.Sign() == 0 || x.Cmp(big.NewRat(1, 1)) == 0 }

func ofBool(b bool) *big.Rat {
	if b {
		return big.NewRat(1, 1)
	}
	return new(big.Rat)
}

func floor(x *big.Rat) *big.Rat {
	q, _ := new(big.Int).DivMod(x.Num(), x.Denom(), new(big.Int))
	return new(big.Rat).SetInt(q)
}

// wantOne is a function of a number, as the document says; nil: a Domain error.
func wantOne(glyph rune, x *big.Rat) *big.Rat {
	switch glyph {
	case '+':
		return x
	case '-':
		return new(big.Rat).Neg(x)
	case '×':
		return big.NewRat(int64(x.Sign()), 1)
	case '÷':
		if x.Sign() == 0 {
			return nil
		}
		return new(big.Rat).Inv(x)
	case '⌈':
		return new(big.Rat).Neg(floor(new(big.Rat).Neg(x)))
	case '⌊':
		return floor(x)
	case '|':
		return new(big.Rat).Abs(x)
	case '*':
		if x.Sign() == 0 {
			return big.NewRat(1, 1)
		}
	case '!':
		if whole(x) && x.Sign() >= 0 {
			n := min(500, new(big.Int).Set(x.Num()).Uint64()) // 500! does not fit, nor do others
			if x.Num().BitLen() > 60 {
				n = 500
			}
			return new(big.Rat).SetInt(new(big.Int).MulRange(1, int64(n)))
		}
	case '~':
		if bit(x) {
			return ofBool(x.Sign() == 0)
		}
	}
	return nil
}

func TestOne(t *testing.T) { // P5.1, P3
	for _, glyph := range monadic {
		for _, x := range numbers() {
			got, e := scalar.One(plain(), glyph, x)
			expectNumber(t, string(glyph)+rat.Print(x), got, e, wantOne(glyph, toBig(x)), api.Domain)
			apart(t, string(glyph), got, x)
		}
	}
	cases := []struct {
		glyph   rune
		x, want api.Rat
	}{
		{'+', frac(-7, 3), frac(-7, 3)}, {'-', rat.OfInt(5), rat.OfInt(-5)}, {'×', frac(-7, 3), rat.OfInt(-1)}, {'÷', frac(-7, 3), frac(-3, 7)}, {'⌈', frac(-7, 3), rat.OfInt(-2)},
		{'⌊', frac(-7, 3), rat.OfInt(-3)}, {'|', frac(-7, 3), frac(7, 3)}, {'*', rat.OfInt(0), rat.OfInt(1)}, {'!', rat.OfInt(5), rat.OfInt(120)}, {'~', rat.OfInt(1), rat.OfInt(0)}, {'~', rat.OfInt(0), rat.OfInt(1)},
	}
	for _, c := range cases {
		if got, e := scalar.One(api.Env{}, c.glyph, c.x); e != api.OK || rat.Compare(got, c.want) != 0 {
			t.Error(string(c.glyph), c.x, got, e)
		}
	}
}

func TestOneErrors(t *testing.T) { // P5.1, P2
	fails := func(glyph rune, x api.Rat, want api.Errno) {
		t.Helper()
		got, e := scalar.One(plain(), glyph, x)
		expectNumber(t, string(glyph), got, e, nil, want)
	}
	for _, x := range append(wrongNumbers(), rat.OfInt(3)) {
		for _, glyph := range append(noGlyphs(), []rune("<≤=≥>≠∧∨⍲⍱")...) {
			fails(glyph, x, api.ErrNone)
		}
	}
	for _, x := range wrongNumbers() {
		for _, glyph := range monadic {
			fails(glyph, x, api.ErrForm)
		}
	}
	fails('÷', rat.OfInt(0), api.Domain)
	fails('*', rat.OfInt(1), api.Domain)
	fails('!', rat.OfInt(-1), api.Domain)
	fails('!', frac(1, 2), api.Domain)
	fails('!', rat.OfInt(math.MaxInt), api.Limit)
	for _, x := range []api.Rat{rat.OfInt(2), rat.OfInt(-1), frac(1, 2)} {
		fails('~', x, api.Domain)
	}
}

// fromRat are the functions of two numbers that package rat has.
func fromRat(glyph rune, x, y api.Rat) (api.Rat, api.Errno) {
	switch glyph {
	case '+':
		return rat.Add(x, y)
	case '-':
		return rat.Sub(x, y)
	case '×':
		return rat.Mul(x, y)
	case '÷':
		return rat.Div(x, y)
	case '|':
		return rat.Residue(x, y)
	case '*':
		return rat.Power(x, y)
	}
	return rat.Binomial(x, y)
}

// wantTwo is a function of two numbers; nil: the error.
func wantTwo(ct *big.Rat, glyph rune, x, y api.Rat) (*big.Rat, api.Errno) {
	p, q := toBig(x), toBig(y)
	order := p.Cmp(q)
	apart := new(big.Rat).Sub(p, q)
	most := new(big.Rat).Abs(p)
	if size := new(big.Rat).Abs(q); size.Cmp(most) > 0 {
		most = size
	}
	near := order
	if apart.Abs(apart).Cmp(new(big.Rat).Mul(ct, most)) <= 0 {
		near = 0
	}
	logic := strings.ContainsRune("∧∨⍲⍱", glyph)
	if logic && !(bit(p) && bit(q)) {
		return nil, api.Domain
	}
	both, either := p.Sign() != 0 && q.Sign() != 0, p.Sign() != 0 || q.Sign() != 0
	told := map[rune]bool{'<': near < 0, '≤': near <= 0, '=': near == 0, '≥': near >= 0, '>': near > 0, '≠': near != 0, '∧': both, '∨': either, '⍲': !both, '⍱': !either}
	if b, ok := told[glyph]; ok {
		return ofBool(b), api.OK
	}
	switch {
	case glyph == '⌈' && order > 0, glyph == '⌊' && order < 0:
		return p, api.OK
	case glyph == '⌈', glyph == '⌊':
		return q, api.OK
	}
	got, e := fromRat(glyph, x, y)
	if e != api.OK {
		return nil, e
	}
	return toBig(got), api.OK
}

func TestTwo(t *testing.T) { // P5.1, P3
	tolerances := []api.Rat{rat.OfInt(0), frac(1, 1000), frac(1, 2), frac(-1, 2), rat.OfInt(1)}
	for _, glyph := range dyadic {
		for _, x := range numbers() {
			for _, y := range numbers() {
				for _, ct := range tolerances {
					got, e := scalar.Two(env(ct), glyph, x, y)
					want, wantE := wantTwo(toBig(ct), glyph, x, y)
					expectNumber(t, rat.Print(x)+string(glyph)+rat.Print(y), got, e, want, wantE)
					if strings.ContainsRune(numeric, glyph) {
						break // a tolerance plays no part
					}
				}
			}
		}
	}
	for _, glyph := range dyadic {
		x, y, ct := rat.OfInt(1), rat.OfInt(1), rat.OfInt(0)
		got, e := scalar.Two(env(ct), glyph, x, y)
		if e != api.OK {
			t.Error(string(glyph), e)
		}
		apart(t, string(glyph), got, x, y, ct)
	}
	for _, x := range numbers() {
		for _, y := range numbers() {
			for _, glyph := range "⌈⌊" {
				got, _ := scalar.Two(plain(), glyph, x, y)
				apart(t, string(glyph), got, x, y)
			}
		}
	}
}

func TestTwoCases(t *testing.T) { // P5.1
	cases := []struct {
		x     api.Rat
		glyph rune
		y     api.Rat
		want  api.Rat
	}{
		{rat.OfInt(1), '+', frac(1, 3), frac(4, 3)}, {rat.OfInt(1), '-', frac(1, 3), frac(2, 3)}, {rat.OfInt(2), '×', frac(1, 3), frac(2, 3)}, {rat.OfInt(1), '÷', rat.OfInt(3), frac(1, 3)},
		{rat.OfInt(0), '÷', rat.OfInt(0), rat.OfInt(1)}, {rat.OfInt(3), '|', rat.OfInt(-7), rat.OfInt(2)}, {rat.OfInt(2), '*', rat.OfInt(-3), frac(1, 8)}, {rat.OfInt(2), '!', rat.OfInt(4), rat.OfInt(6)},
		{rat.OfInt(4), '!', rat.OfInt(2), rat.OfInt(0)}, {rat.OfInt(-2), '⌈', rat.OfInt(-3), rat.OfInt(-2)}, {rat.OfInt(-2), '⌊', rat.OfInt(-3), rat.OfInt(-3)},
		{rat.OfInt(1), '∧', rat.OfInt(1), rat.OfInt(1)}, {rat.OfInt(1), '∧', rat.OfInt(0), rat.OfInt(0)}, {rat.OfInt(0), '∨', rat.OfInt(1), rat.OfInt(1)}, {rat.OfInt(0), '∨', rat.OfInt(0), rat.OfInt(0)},
		{rat.OfInt(1), '⍲', rat.OfInt(1), rat.OfInt(0)}, {rat.OfInt(0), '⍲', rat.OfInt(1), rat.OfInt(1)}, {rat.OfInt(0), '⍱', rat.OfInt(0), rat.OfInt(1)}, {rat.OfInt(1), '⍱', rat.OfInt(0), rat.OfInt(0)},
	}
	for _, c := range cases {
		if got, e := scalar.Two(plain(), c.glyph, c.x, c.y); e != api.OK || rat.Compare(got, c.want) != 0 {
			t.Error(c.x, string(c.glyph), c.y, got, e)
		}
	}
}

func TestTolerance(t *testing.T) { // P5.1: 100 and 101 are 1 by 101 of the greater one apart
	for _, c := range []struct {
		ct   api.Rat
		want string
	}{{rat.OfInt(0), "<≤≠"}, {frac(1, 102), "<≤≠"}, {frac(1, 101), "≤=≥"}, {frac(1, 100), "≤=≥"}} {
		for _, glyph := range "<≤=≥>≠" {
			got, e := scalar.Two(env(c.ct), glyph, rat.OfInt(100), rat.OfInt(101))
			holds := strings.ContainsRune(c.want, glyph)
			expectNumber(t, string(glyph), got, e, ofBool(holds), api.OK)
		}
		for _, glyph := range "⌈⌊" { // by no tolerance
			got, e := scalar.Two(env(c.ct), glyph, rat.OfInt(101), rat.OfInt(100))
			want := map[rune]int64{'⌈': 101, '⌊': 100}[glyph]
			expectNumber(t, string(glyph), got, e, big.NewRat(want, 1), api.OK)
		}
	}
}

func TestTwoErrors(t *testing.T) { // P5.1, P2
	fails := func(ct api.Rat, glyph rune, x, y api.Rat, want api.Errno) {
		t.Helper()
		got, e := scalar.Two(env(ct), glyph, x, y)
		expectNumber(t, string(glyph), got, e, nil, want)
	}
	zero, right := rat.OfInt(0), rat.OfInt(1)
	for _, wrong := range append(wrongNumbers(), right) {
		for _, glyph := range append(noGlyphs(), '~') {
			fails(zero, glyph, wrong, right, api.ErrNone)
			fails(zero, glyph, right, wrong, api.ErrNone)
			fails(wrong, glyph, right, right, api.ErrNone)
		}
	}
	for _, wrong := range wrongNumbers() {
		for _, glyph := range dyadic {
			fails(zero, glyph, wrong, right, api.ErrForm)
			fails(zero, glyph, right, wrong, api.ErrForm)
			fails(wrong, glyph, right, right, api.ErrForm)
			fails(wrong, glyph, rat.OfInt(3), rat.OfInt(0), api.ErrForm)
		}
	}
	fails(zero, '÷', right, zero, api.Domain)
	fails(zero, '*', right, frac(1, 2), api.Domain)
	fails(zero, '*', zero, rat.OfInt(-1), api.Domain)
	fails(zero, '*', rat.OfInt(2), rat.OfInt(1025), api.Limit)
	fails(zero, '!', right, frac(1, 2), api.Domain)
	fails(zero, '!', rat.OfInt(-1), right, api.Domain)
	for _, glyph := range "∧∨⍲⍱" {
		for _, x := range []api.Rat{rat.OfInt(2), rat.OfInt(-1), frac(1, 2)} {
			fails(zero, glyph, x, right, api.Domain)
			fails(zero, glyph, zero, x, api.Domain)
			fails(rat.OfInt(1), glyph, x, x, api.Domain)
		}
	}
}

func TestIdentityChangesNothing(t *testing.T) { // P5.7
	const left, right, ofBits = "+×∧∨=≠|<≤!", "+-×÷*∧∨=≠>≥", "∧∨=≠<≤≥>"
	for _, x := range numbers() {
		for _, glyph := range dyadic {
			y, ok := scalar.Identity(glyph)
			count := whole(toBig(x)) && !x.Below
			if !ok || strings.ContainsRune(ofBits, glyph) && !bit(toBig(x)) || glyph == '!' && !count {
				continue
			}
			if strings.ContainsRune(left, glyph) {
				got, e := scalar.Two(plain(), glyph, y, x)
				expectNumber(t, string(glyph)+" left", got, e, toBig(x), api.OK)
			}
			if strings.ContainsRune(right, glyph) {
				got, e := scalar.Two(plain(), glyph, x, y)
				expectNumber(t, string(glyph)+" right", got, e, toBig(x), api.OK)
			}
		}
	}
}
