package measure_test

import (
	"math/big"
	"strings"
	"testing"

	"garment/api"
	"garment/measure"
)

// formatted fails the test unless Format of a returns this text.
func formatted(t *testing.T, a api.Ratio, want string) {
	t.Helper()
	if s, e := measure.Format(a); e != api.OK || s != want {
		t.Errorf("Format(%v): %q, %d, not %q", a, s, e, want)
	}
}

// unformatted fails the test unless Format of a returns ErrRange.
func unformatted(t *testing.T, a api.Ratio) {
	t.Helper()
	if s, e := measure.Format(a); e != api.ErrRange || s != "" {
		t.Errorf("Format(%v): %q, %d, not ErrRange", a, s, e)
	}
}

// P4.2: the examples of the chapter.
func TestFormatExamples(t *testing.T) {
	formatted(t, length("3810"), "38.1mm")
	formatted(t, length("-700/3"), "-2 1/3mm")
	formatted(t, length("1/3"), "1/300mm")
	formatted(t, length("1/100"), "0.0001mm")
	unformatted(t, length("1/1000"))
}

// P4.2: every form with both signs, in every form of the ratio; the keys are lengths in millimetres.
func TestFormatForms(t *testing.T) {
	for v, want := range map[string]string{
		"1": "1", "10": "10", "100": "100", "1234567": "1234567", "9999999": "9999999",
		"0.1": "0.1", "0.5": "0.5", "0.25": "0.25", "0.001": "0.001", "0.0001": "0.0001", "0.0010": "0.001", "0.9999": "0.9999", "1.01": "1.01", "10.1": "10.1", "100.0502": "100.0502", "9999999.9999": "9999999.9999",
		"1/2": "0.5", "1/4": "0.25", "1/8": "0.125", "1/16": "0.0625", "1/625": "0.0016", "1/1250": "0.0008", "1/5000": "0.0002", "1/10000": "0.0001", "3/10000": "0.0003", "9999/10000": "0.9999", "5/2": "2.5",
		"1/32": "1/32", "31/32": "31/32", "33/32": "1 1/32", "1/3": "1/3", "2/3": "2/3", "4/3": "1 1/3", "10/3": "3 1/3", "1/999": "1/999", "998/999": "998/999", "1000/999": "1 1/999", "1/998": "1/998", "1/7": "1/7",
		"1/128": "1/128", "129/128": "1 1/128", "513/512": "1 1/512", "29999999/3": "9999999 2/3",
	} {
		a := new(big.Rat).Mul(number(v), number("100"))
		for _, form := range forms(normal(a)) {
			formatted(t, form, want+"mm")
		}
		for _, form := range forms(normal(a.Neg(a))) {
			formatted(t, form, "-"+want+"mm")
		}
	}
}

// P4.2: 0 has no sign, however it is given.
func TestFormatZero(t *testing.T) {
	for _, zero := range zeros() {
		formatted(t, zero, "0mm")
	}
}

// P4.2: the whole part is at most 9999999 in each form; a fraction that is needed has a denominator of at most 999.
func TestFormatRange(t *testing.T) {
	for v, want := range map[string]string{
		"9999999": "9999999", "9999999.5": "9999999.5", "9999999.9999": "9999999.9999", "29999999/3": "9999999 2/3", "9989999999/999": "9999999 998/999",
		"1/999": "1/999", "5/999": "5/999", "1/1250": "0.0008", "1/10000": "0.0001", "1/2000": "0.0005",
	} {
		a := new(big.Rat).Mul(number(v), number("100"))
		formatted(t, normal(a), want+"mm")
		formatted(t, normal(a.Neg(a)), "-"+want+"mm")
	}
	for _, v := range []string{
		"10000000", "10000000.5", "10000000.0001", "30000001/3", "9990000001/999", "12345678", "18446744073709551616", "9223372036854775808", "36893488147419103233/2", "340282366920938463463374607431768211456",
		"1/1000000", "1/1001", "1000/1001", "1001/1000000", "1/1024", "1/100000", "1/20000", "3/20000", "1/9999", "1/10001", "1/30000", "2/2001", "10009997999/1001", "0.00001", "1.00001", "9999999.00001",
		"1/4294967296", "4294967297/4294967296", "1/18446744073709551616", "1/36893488147419103232", "36893488147419103231/36893488147419103232", "1/18446744073709561616",
	} {
		a := new(big.Rat).Mul(number(v), number("100"))
		for _, form := range forms(normal(a)) {
			unformatted(t, form)
		}
		for _, form := range forms(normal(a.Neg(a))) {
			unformatted(t, form)
		}
	}
}

// text returns what the chapter says of the text of a, computed with the standard library, or "" if there is none.
func text(a api.Ratio) string {
	v := new(big.Rat).Quo(value(a), number("100"))
	sign := ""
	if v.Sign() < 0 {
		sign = "-"
		v.Neg(v)
	}
	whole := new(big.Int).Quo(v.Num(), v.Denom())
	if whole.Cmp(big.NewInt(9999999)) > 0 {
		return ""
	}
	if digits := v.FloatString(4); number(digits).Cmp(v) == 0 {
		return sign + strings.TrimRight(strings.TrimRight(digits, "0"), ".") + "mm"
	}
	rest := new(big.Rat).Sub(v, new(big.Rat).SetInt(whole))
	if rest.Denom().Cmp(big.NewInt(999)) > 0 {
		return ""
	}
	if whole.Sign() == 0 {
		return sign + rest.RatString() + "mm"
	}
	return sign + whole.String() + " " + rest.RatString() + "mm"
}

// P4.2: compared with the standard library.
func TestFormat(t *testing.T) {
	texts := 0
	for _, a := range lengths() {
		want := text(a)
		for _, form := range forms(a) {
			if want == "" {
				unformatted(t, form)
			} else {
				formatted(t, form, want)
				texts++
			}
		}
	}
	if texts < 1000 {
		t.Errorf("only %d texts", texts)
	}
}

// R3: Format and Units do not modify the length.
func TestLengthsStayAsTheyWere(t *testing.T) {
	for _, a := range lengths() {
		for _, form := range forms(a) {
			b, changed := guarded(form)
			measure.Format(b)
			measure.Units(b)
			if changed() {
				t.Errorf("%v is modified", form)
			}
		}
	}
}
