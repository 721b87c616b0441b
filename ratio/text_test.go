package ratio_test

import (
	"math/big"
	"strings"
	"testing"

	"garment/api"
	"garment/ratio"
)

// P3.1
func TestText(t *testing.T) {
	for _, x := range []struct {
		a    api.Ratio
		want string
	}{
		{fraction(6, 4), "3/2"}, {fraction(-8, 4), "-2"}, {fraction(-3, 6), "-1/2"}, {fraction(7, 1), "7"}, {fraction(1, 7), "1/7"},
		{fraction(1000000000, 999999999), "1000000000/999999999"}, {fraction(-1, 4294967296), "-1/4294967296"},
	} {
		if s := ratio.Text(x.a); s != x.want {
			t.Errorf("Text(%v): %s, not %s", x.a, s, x.want)
		}
	}
	for _, zero := range zeros() {
		if s := ratio.Text(zero); s != "0" {
			t.Errorf("Text(%v): %s", zero, s)
		}
	}
	for _, a := range samples() {
		if s := ratio.Text(a); s != value(a).RatString() {
			t.Errorf("Text(%v): %s", a, s)
		}
	}
}

// P3.1
func TestParse(t *testing.T) {
	for _, x := range []struct {
		s    string
		want api.Ratio
	}{
		{"3/2", fraction(3, 2)}, {"-1/2", fraction(-1, 2)}, {"0", fraction(0, 1)}, {"5", fraction(5, 1)}, {"-5", fraction(-5, 1)},
		{"1/10", fraction(1, 10)}, {"10/3", fraction(10, 3)}, {"-4/9", fraction(-4, 9)}, {"1/4294967296", fraction(1, 4294967296)},
	} {
		same(t, "Parse "+x.s, parsed(t, x.s), x.want)
	}
}

// parsed returns what s denotes, and fails the test if it has an error.
func parsed(t *testing.T, s string) api.Ratio {
	t.Helper()
	a, e := ratio.Parse(s)
	if e != api.OK {
		t.Errorf("Parse(%q): %d", s, e)
	}
	return a
}

// P3.6: Parse inverts Text, and Text inverts Parse.
func TestParseOfText(t *testing.T) {
	for _, a := range samples() {
		same(t, "Parse of Text", parsed(t, ratio.Text(a)), normal(value(a)))
	}
	for _, s := range []string{"0", "1", "-1", "2", "1/2", "-1/2", "3/2", "-10/9", "12345678901234567890/7", "-7/12345678901234567890"} {
		if back := ratio.Text(parsed(t, s)); back != s {
			t.Errorf("Text of Parse(%q): %s", s, back)
		}
	}
}

// P3.6: two ratios have the same Text exactly if their values are equal.
func TestTextTellsValuesApart(t *testing.T) {
	pairs(func(a, b api.Ratio) {
		if (ratio.Text(a) == ratio.Text(b)) != (value(a).Cmp(value(b)) == 0) {
			t.Errorf("Text(%v) and Text(%v): %s, %s", a, b, ratio.Text(a), ratio.Text(b))
		}
	})
}

// P3.6: the numerator and the denominator may have MaxDigits digits each, but no more.
func TestLengths(t *testing.T) {
	ones, nines := strings.Repeat("1", api.MaxDigits), strings.Repeat("9", api.MaxDigits-1)
	for _, s := range []string{ones, "-" + ones, ones + "/2", "-" + ones + "/2", "2/" + ones, "-1/" + ones, ones + "/" + nines + "8", "-" + ones + "/" + nines + "8"} {
		same(t, "Parse "+s, parsed(t, s), normal(rational(s)))
		if back := ratio.Text(parsed(t, s)); back != s {
			t.Errorf("Text of Parse(%q): %s", s, back)
		}
	}
	for _, s := range []string{ones + "1", "-" + ones + "1", ones + "1/2", "2/" + ones + "1", "-2/" + ones + "1"} {
		fails(t, s, api.ErrTooLong)
		if long := ratio.Text(normal(rational(s))); long != s {
			t.Errorf("Text: %s, not %s", long, s)
		}
	}
}

// rational returns what s denotes, read by the standard library.
func rational(s string) *big.Rat {
	v, _ := new(big.Rat).SetString(s)
	return v
}

// fails fails the test unless Parse of s returns this error and the zero Ratio.
func fails(t *testing.T, s string, want api.Errno) {
	t.Helper()
	a, e := ratio.Parse(s)
	same(t, "Parse", a, api.Ratio{})
	if e != want {
		t.Errorf("Parse(%q): %d, not %d", s, e, want)
	}
}

// P3.1: what integer.Parse does not accept before the slash, and natural.Parse behind it.
func TestParseSyntaxOfParts(t *testing.T) {
	for _, s := range []string{
		"", "-", "-0", "+1", "01", "007", "--1", "a", " 1", "1 ", "1.5", "\xff", "\u0661", "1\\2", "1\u22152",
		"/", "/3", "-/3", "-0/3", "+1/2", "01/2", " 1/2", "1 /2", "a/2", "//", "/2/3",
		"3/", "3/-2", "3/+2", "1/02", "3/ 2", "3/2 ", "3/2\n", "3/a", "3/-", "1/2/3", "1//2", "1/2/", "3/\xff", "3/\u0662",
	} {
		fails(t, s, api.ErrSyntax)
	}
}

// P3.1: parts that are numbers, but not those of the normal form.
func TestParseOfOtherForms(t *testing.T) {
	for _, s := range []string{
		"3/0", "1/0", "-1/0", "0/0", "3/1", "-3/1", "1/1", "0/1", "0/5", "0/2", "6/4", "-6/4", "2/2", "-7/7", "4/2", "2/4",
		"12345678901234567890/10", "36893488147419103232/55340232221128654848",
	} {
		fails(t, s, api.ErrSyntax)
	}
}

// P3.1: the error of the first part comes before that of the second one, and both before those of the fraction.
func TestParseOrderOfErrors(t *testing.T) {
	long := strings.Repeat("1", api.MaxDigits+1)
	for _, s := range []string{
		long, "-" + long, "x" + long, long + "/", long + "/x", long + "/" + long, long + "/0", "-" + long + "/02",
		"3/" + long, "3/x" + long, "3/0" + long, "0/" + long, "3/" + strings.Repeat("0", api.MaxDigits+1), "6/4/" + long, "-1/-" + long,
	} {
		fails(t, s, api.ErrTooLong)
	}
	for _, s := range []string{"/" + long, "-/" + long, "-0/" + long, "x/" + long, "01/" + long, " /" + long} {
		fails(t, s, api.ErrSyntax)
	}
}
