package measure_test

import (
	"math/big"
	"strings"
	"testing"

	"garment/api"
	"garment/measure"
	"garment/ratio"
)

// rounded fails the test unless Units of a returns n.
func rounded(t *testing.T, a api.Ratio, n int) {
	t.Helper()
	if got, e := measure.Units(a); e != api.OK || got != n {
		t.Errorf("Units(%v): %d, %d, not %d", a, got, e, n)
	}
}

// P4.3: halves are rounded away from zero, in every form of the ratio.
func TestUnits(t *testing.T) {
	for s, want := range map[string]int{
		"0": 0, "1": 1, "2": 2, "100": 100, "5/2": 3, "3/2": 2, "1/2": 1, "1/3": 0, "2/3": 1, "7/3": 2, "8/3": 3, "9/4": 2, "11/4": 3, "49/100": 0, "51/100": 1,
		"2147483647/4294967296": 0, "2147483648/4294967296": 1, "2147483649/4294967296": 1, "9223372036854775807/18446744073709551616": 0,
		"1048575": 1048575, "1048576": 1048576, "2097151/2": 1048576, "2097149/2": 1048575, "10485764/10": 1048576, "10485759/10": 1048576,
	} {
		for _, form := range forms(length(s)) {
			rounded(t, form, want)
		}
		for _, form := range forms(normal(new(big.Rat).Neg(number(s)))) {
			rounded(t, form, -want)
		}
	}
	for _, zero := range zeros() {
		rounded(t, zero, 0)
	}
}

// P4.3: the rounded length is from -MaxCoord to MaxCoord.
func TestUnitsRange(t *testing.T) {
	for _, s := range []string{
		"2097153/2", "10485765/10", "1048577", "3145730/3", "999999999", "2147483648", "4294967296", "4294967297", "9223372036854775807", "9223372036854775808", "18446744073709551615", "18446744073709551616", "18446744073709551617",
		"36893488147419103233/2", "340282366920938463463374607431768211456", "340282366920938463463374607431768211457",
	} {
		for _, a := range []api.Ratio{length(s), ratio.Neg(length(s))} {
			for _, form := range forms(a) {
				if n, e := measure.Units(form); e != api.ErrRange || n != 0 {
					t.Errorf("Units(%v): %d, %d, not ErrRange", form, n, e)
				}
			}
		}
	}
}

// P4.3 and P4.4: Units differs from the length by at most a half, and returns the one that is farther from zero if there are two of these.
func TestUnitsOfLengths(t *testing.T) {
	half, limit := number("1/2"), new(big.Rat).Add(number("1048576"), number("1/2"))
	count := 0
	for _, a := range lengths() {
		n, e := measure.Units(a)
		magnitude := new(big.Rat).Abs(value(a))
		if inside := magnitude.Cmp(limit) < 0; inside != (e == api.OK) {
			t.Errorf("Units(%v): %d", a, e)
			continue
		}
		if e != api.OK {
			continue
		}
		count++
		units := new(big.Rat).SetInt64(int64(n))
		distance := new(big.Rat).Sub(units, value(a))
		tie := distance.Abs(distance).Cmp(half)
		if tie > 0 || tie == 0 && units.Abs(units).Cmp(magnitude) < 0 {
			t.Errorf("Units(%v): %d", a, n)
		}
	}
	if count < 500 {
		t.Errorf("only %d lengths in range", count)
	}
}

// P4.4: Parse of Format is the length, and Format has no other text for it.
func TestParseOfFormat(t *testing.T) {
	for _, a := range lengths() {
		s, e := measure.Format(a)
		if e != api.OK {
			continue
		}
		same(t, "Parse of "+s, parsed(t, s), a)
		again, _ := measure.Format(parsed(t, s))
		if again != s {
			t.Errorf("Format of Parse(%q): %q", s, again)
		}
	}
}

// P4.4: a minus sign negates, in both directions.
func TestMinusSign(t *testing.T) {
	for _, a := range lengths() {
		s, e := measure.Format(a)
		back, other := measure.Format(ratio.Neg(a))
		want := "-" + s
		if strings.HasPrefix(s, "-") {
			want = s[1:]
		}
		if e != other || e == api.OK && s != "0mm" && back != want {
			t.Errorf("Format(%v): %q, and %q of the negative", a, s, back)
		}
	}
	for _, v := range values() {
		for _, unit := range []string{"mm", "cm", "m", "in"} {
			same(t, "Parse -"+v+unit, parsed(t, "-"+v+unit), ratio.Neg(parsed(t, v+unit)))
		}
	}
}

// values returns values of every kind.
func values() []string {
	list := []string{}
	for _, whole := range []string{"0", "1", "38", "100", "9999999"} {
		list = append(list, whole)
		for _, rest := range []string{".0", ".5", ".25", ".0001", ".9999", "/1", "/3", "/8", "/999", " 0/7", " 1/2", " 5/4", " 9999999/998"} {
			list = append(list, whole+rest)
		}
	}
	return list
}

// P4.4: a value is ten times as long in centimetres as in millimetres, a thousand times in metres, and 25.4 times in inches.
func TestUnitsOfLengthAgree(t *testing.T) {
	for _, v := range values() {
		millimetres := parsed(t, v+"mm")
		same(t, v+"cm", parsed(t, v+"cm"), ratio.Mul(millimetres, length("10")))
		same(t, v+"m", parsed(t, v+"m"), ratio.Mul(millimetres, length("1000")))
		same(t, v+"in", parsed(t, v+"in"), ratio.Mul(millimetres, length("25.4")))
	}
}

// P4.4: a whole number and a fraction are their sum.
func TestMixedNumbersAreSums(t *testing.T) {
	for _, whole := range []string{"0", "1", "12", "9999999"} {
		for _, fraction := range []string{"0/1", "1/2", "2/4", "7/3", "998/999", "9999999/1", "9999999/999"} {
			for _, unit := range []string{"mm", "cm", "m", "in"} {
				s := whole + " " + fraction + unit
				same(t, s, parsed(t, s), ratio.Add(parsed(t, whole+unit), parsed(t, fraction+unit)))
				same(t, "-"+s, parsed(t, "-"+s), ratio.Add(parsed(t, "-"+whole+unit), parsed(t, "-"+fraction+unit)))
			}
		}
	}
}
