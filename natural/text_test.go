package natural_test

import (
	"strings"
	"testing"

	"garment/api"
	"garment/natural"
)

// P1.8
func TestText(t *testing.T) {
	for _, x := range []struct {
		a    api.Nat
		want string
	}{
		{nil, "0"}, {api.Nat{0, 0}, "0"}, {api.Nat{7, 0}, "7"}, {api.Nat{0, 1}, "4294967296"}, {api.Nat{full}, "4294967295"},
		{api.Nat{1000000000}, "1000000000"}, {api.Nat{999999999}, "999999999"}, {api.Nat{1000000007}, "1000000007"},
		{api.Nat{0xa7640000, 0xde0b6b3}, "1000000000000000000"}, {api.Nat{0xa763ffff, 0xde0b6b3}, "999999999999999999"},
		{api.Nat{full, full}, "18446744073709551615"},
	} {
		if s := natural.Text(x.a); s != x.want {
			t.Errorf("Text(%v): %s, not %s", x.a, s, x.want)
		}
	}
	for _, a := range samples() {
		if s := natural.Text(a); s != value(a).String() {
			t.Errorf("Text(%v): %s", a, s)
		}
	}
}

// P1.8: Text has no limit.
func TestLongText(t *testing.T) {
	a := api.Nat{1}
	for range 600 {
		a = natural.Mul(a, api.Nat{10})
	}
	if s := natural.Text(a); s != "1"+strings.Repeat("0", 600) {
		t.Error(s)
	}
}

// P1.8
func TestParse(t *testing.T) {
	for _, x := range []struct {
		s    string
		want api.Nat
	}{
		{"0", nil}, {"7", api.Nat{7}}, {"10", api.Nat{10}}, {"4294967295", api.Nat{full}}, {"4294967296", api.Nat{0, 1}},
		{"18446744073709551616", api.Nat{0, 0, 1}}, {"1000000000000000000", api.Nat{0xa7640000, 0xde0b6b3}},
	} {
		a, e := natural.Parse(x.s)
		same(t, "Parse "+x.s, a, x.want)
		if e != api.OK {
			t.Errorf("Parse(%q): %d", x.s, e)
		}
	}
}

// P1.8
func TestParseSyntax(t *testing.T) {
	for _, s := range []string{
		"", "007", "00", "01", "+1", "-1", "-0", " 1", "1 ", "1a", "a", "a1", "1.0", "1e3", "0x1", "1_000", "1\n", "\x001",
		"/", ":", "1/", "1:", "\u0661", "\uff11", "\xff", "0 ", "1" + strings.Repeat("0", 198) + "x", "0" + strings.Repeat("1", 199),
	} {
		if a, e := natural.Parse(s); e != api.ErrSyntax || len(a) != 0 {
			t.Errorf("Parse(%q): %v, %d", s, a, e)
		}
	}
}

// P1.8
func TestParseLength(t *testing.T) {
	for _, digit := range []string{"1", "5", "9"} {
		s := strings.Repeat(digit, api.MaxDigits)
		a, e := natural.Parse(s)
		if e != api.OK || value(a).String() != s || a[len(a)-1] == 0 {
			t.Errorf("Parse(%q): %v, %d", s, a, e)
		}
	}
	for _, s := range []string{
		strings.Repeat("9", api.MaxDigits+1), strings.Repeat("0", api.MaxDigits+1), strings.Repeat("x", api.MaxDigits+1),
		strings.Repeat(" ", 5000), strings.Repeat("\u0661", 101),
	} {
		if a, e := natural.Parse(s); e != api.ErrTooLong || len(a) != 0 {
			t.Errorf("Parse of %d bytes: %v, %d", len(s), a, e)
		}
	}
}
