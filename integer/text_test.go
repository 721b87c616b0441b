package integer_test

import (
	"math"
	"strings"
	"testing"

	"garment/api"
	"garment/integer"
)

// P2.6
func TestText(t *testing.T) {
	for _, x := range []struct {
		a    api.Int
		want string
	}{
		{api.Int{}, "0"}, {api.Int{Neg: true}, "0"}, {api.Int{Neg: true, Mag: api.Nat{0, 0}}, "0"}, {integer.Of(12), "12"}, {integer.Of(-12), "-12"},
		{api.Int{Neg: true, Mag: api.Nat{7, 0}}, "-7"}, {integer.Of(math.MinInt), "-9223372036854775808"}, {integer.Of(-1000000000), "-1000000000"},
	} {
		if s := integer.Text(x.a); s != x.want {
			t.Errorf("Text(%v): %s, not %s", x.a, s, x.want)
		}
	}
	for _, a := range samples() {
		if s := integer.Text(a); s != value(a).String() {
			t.Errorf("Text(%v): %s", a, s)
		}
	}
}

// P2.6: Parse inverts Text.
func TestParse(t *testing.T) {
	same(t, "Text", parsed(t, "-12"), integer.Of(-12))
	same(t, "Text", parsed(t, "0"), api.Int{})
	same(t, "Text", parsed(t, "9223372036854775808"), api.Int{Mag: api.Nat{0, 0x80000000}})
	same(t, "Text", parsed(t, "-18446744073709551616"), api.Int{Neg: true, Mag: api.Nat{0, 0, 1}})
	for _, a := range samples() {
		same(t, "Parse of Text", parsed(t, integer.Text(a)), normal(value(a)))
	}
	for _, s := range []string{"0", "-1", "1", "-10", "100000000000000000000", "-100000000000000000000"} {
		if back := integer.Text(parsed(t, s)); back != s {
			t.Errorf("Text of Parse(%q): %s", s, back)
		}
	}
}

// parsed returns what s denotes, and fails the test if it has an error.
func parsed(t *testing.T, s string) api.Int {
	t.Helper()
	a, e := integer.Parse(s)
	if e != api.OK {
		t.Errorf("Parse(%q): %d", s, e)
	}
	return a
}

// P2.6: MaxDigits digits are accepted, with or without a minus sign.
func TestParseOfManyDigits(t *testing.T) {
	for _, digit := range []string{"1", "9"} {
		digits := strings.Repeat(digit, api.MaxDigits)
		for _, s := range []string{digits, "-" + digits} {
			if v := value(parsed(t, s)); v.String() != s {
				t.Errorf("Parse(%q): %v", s, v)
			}
		}
	}
}

// P2.6
func TestParseErrors(t *testing.T) {
	long := strings.Repeat("1", api.MaxDigits+1)
	for s, want := range map[string]api.Errno{
		"": api.ErrSyntax, "-": api.ErrSyntax, "-0": api.ErrSyntax, "+1": api.ErrSyntax, "007": api.ErrSyntax, "-007": api.ErrSyntax,
		"00": api.ErrSyntax, "-00": api.ErrSyntax, "--1": api.ErrSyntax, "1-": api.ErrSyntax, "1-1": api.ErrSyntax, " 1": api.ErrSyntax,
		"- 1": api.ErrSyntax, "-1 ": api.ErrSyntax, "-a": api.ErrSyntax, "1a": api.ErrSyntax, "-1.5": api.ErrSyntax, "\u22121": api.ErrSyntax,
		"-+1": api.ErrSyntax, "\xff": api.ErrSyntax, "-\x00": api.ErrSyntax, long[:api.MaxDigits-1] + "a": api.ErrSyntax,
		"-" + long[:api.MaxDigits-1] + "a": api.ErrSyntax, "-0" + long[:api.MaxDigits-1]: api.ErrSyntax,
		long: api.ErrTooLong, "-" + long: api.ErrTooLong, "-" + long[1:] + "a": api.ErrTooLong, "--" + long[1:]: api.ErrTooLong,
		"-" + strings.Repeat("0", api.MaxDigits+1): api.ErrTooLong, strings.Repeat("x", 5000): api.ErrTooLong,
	} {
		a, e := integer.Parse(s)
		same(t, "Parse", a, api.Int{})
		if e != want {
			t.Errorf("Parse(%q): %d, not %d", s, e, want)
		}
	}
}
