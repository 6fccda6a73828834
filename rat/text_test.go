package rat_test

import (
	"math/big"
	"strings"
	"testing"

	"glyph/api"
	"glyph/rat"
)

func noughts(n int) string {
	return strings.Repeat("0", n)
}

func TestPrint(t *testing.T) { // P2.5, P2.7, E6
	for s, x := range map[string]api.Rat{"0": rat.OfInt(0), "5": rat.OfInt(5), "¯5": rat.OfInt(-5), "1r3": frac(1, 3), "¯22r7": frac(-22, 7), "1000000000": rat.OfInt(1000000000)} {
		if got := rat.Print(x); got != s {
			t.Error(s, got)
		}
	}
	for _, x := range samples() {
		v := toBig(x)
		want := strings.Replace(strings.Replace(v.RatString(), "-", "¯", 1), "/", "r", 1)
		s := rat.Print(x)
		if s != want {
			t.Error(s, want)
		}
		if back, e := rat.Parse(s); e != api.OK || !equal(back, x) {
			t.Error("there and back", s, back, e)
		}
	}
}

func TestParse(t *testing.T) { // P2.5
	cases := map[string]api.Rat{
		"0": rat.OfInt(0), "000": rat.OfInt(0), "7": rat.OfInt(7), "007": rat.OfInt(7), "¯7": rat.OfInt(-7), "¯0": rat.OfInt(0),
		"1.5": frac(3, 2), "¯1.5": frac(-3, 2), "0.0": rat.OfInt(0), "¯0.00": rat.OfInt(0), "1.25": frac(5, 4), "0.050": frac(1, 20), "10.00": rat.OfInt(10),
		"1r3": frac(1, 3), "6r4": frac(3, 2), "¯6r4": frac(-3, 2), "0r5": rat.OfInt(0), "¯0r5": rat.OfInt(0), "06r03": rat.OfInt(2),
	}
	for s, want := range cases {
		if got, e := rat.Parse(s); e != api.OK || !equal(got, want) {
			t.Error(s, got, e)
		}
	}
}

func TestParseWrong(t *testing.T) { // P2.5
	wrong := []string{"", "¯", "¯¯1", "1¯", ".", "r", ".5", "5.", "1r", "r2", "¯.5", "¯r2", "1.¯5", "1r¯2", "1.2.3", "1r2r3", "1.2r3", "1r2.3", "1..2", "1rr2",
		"1r0", "1r000", "0r0", "¯1r0", "+1", "-1", " 1", "1 ", "1 2", "1e5", "1R2", "1,5", "1/2", "1_0", "0x1", "a", "١", "１", "1\x00", "\xff", "1\xff", "\xc2", "1\xc2", "\xaf1", "⍝", "1\n"}
	for _, s := range wrong {
		got, e := rat.Parse(s)
		expect(t, s, got, e, nil, api.ErrForm)
	}
}

func TestParseLength(t *testing.T) { // P2.5
	most := api.MaxDigits
	right := map[string]api.Rat{
		noughts(most):                             rat.OfInt(0),
		noughts(most-1) + "7":                     rat.OfInt(7),
		"¯" + noughts(most-2) + "7":               rat.OfInt(-7), // the ¯ is one character of two bytes
		"3." + noughts(most-2):                    rat.OfInt(3),
		"¯3." + noughts(most-3):                   rat.OfInt(-3),
		"0" + noughts(most-4) + "2r4":             frac(1, 2),
		"1" + noughts(340) + "r2" + noughts(340):  frac(1, 2),
		"¯1" + noughts(340) + "r2" + noughts(339): rat.OfInt(-5),
	}
	for s, want := range right {
		if got, e := rat.Parse(s); e != api.OK || !equal(got, want) {
			t.Error(s, got, e)
		}
	}
	tooLong := []string{noughts(most + 1), "¯" + noughts(most), "1." + noughts(most-1), strings.Repeat("x", most+1), strings.Repeat("⍝", most+1), strings.Repeat("\xff", most+1), "1r" + noughts(most-1), strings.Repeat("1", 5000)}
	for _, s := range tooLong {
		got, e := rat.Parse(s)
		expect(t, len(s), got, e, nil, api.Limit)
	}
	wrong := []string{strings.Repeat("x", most), strings.Repeat("⍝", most), strings.Repeat("\xff", most), "1r" + noughts(most-2), noughts(most-1) + "."}
	for _, s := range wrong {
		got, e := rat.Parse(s)
		expect(t, len(s), got, e, nil, api.ErrForm)
	}
}

func TestParseLimit(t *testing.T) { // P2.5
	most, over := greatest().String(), power(2, 32*api.MaxLimbs).String()
	double := power(2, 32*api.MaxLimbs+1).String()
	for _, s := range []string{most, "¯" + most, "1r" + most, most + ".0", "2r" + over, double + "r4", over + "r" + over, "0r" + over, "0." + noughts(307) + "5"} {
		got, e := rat.Parse(s)
		want, _ := new(big.Rat).SetString(strings.Replace(strings.Replace(s, "¯", "-", 1), "r", "/", 1))
		if !fits(want) {
			t.Error("does not fit", s)
		}
		expect(t, s, got, e, want, 0)
	}
	for _, s := range []string{over, "¯" + over, "1r" + over, over + ".0", "2r" + double, double + "r2", "1" + noughts(699), "0." + noughts(330) + "1", over + "r3"} {
		got, e := rat.Parse(s)
		expect(t, s, got, e, nil, api.Limit)
	}
}
