package digest_test

import (
	"math/rand/v2"
	"strconv"
	"strings"
	"testing"

	"garment/api"
	"garment/digest"
)

// hexIs fails the test unless Hex of d is want.
func hexIs(t *testing.T, d uint64, want string) {
	t.Helper()
	if s := digest.Hex(d); s != want {
		t.Errorf("Hex(%d): %q, not %q", d, s, want)
	}
}

// parses fails the test unless Parse of s returns d.
func parses(t *testing.T, s string, d uint64) {
	t.Helper()
	if got, e := digest.Parse(s); got != d || e != api.OK {
		t.Errorf("Parse(%.200q): %d, %d, not %d", s, got, e, d)
	}
}

// fails fails the test unless Parse of s returns 0 and this error.
func fails(t *testing.T, s string, want api.Errno) {
	t.Helper()
	if d, e := digest.Parse(s); d != 0 || e != want {
		t.Errorf("Parse(%.200q): %d, %d, not 0, %d", s, d, e, want)
	}
}

// notationIs fails the test unless Hex of d is s, and Parse of s is d if d is a digest.
func notationIs(t *testing.T, d uint64, s string) {
	t.Helper()
	hexIs(t, d, s)
	if d < p {
		parses(t, s, d)
	} else {
		fails(t, s, api.ErrRange)
	}
}

// hexDigits returns what the chapter says of Hex.
func hexDigits(d uint64) string {
	s := strconv.FormatUint(d, 16)
	return strings.Repeat("0", 16-len(s)) + s
}

// P7.5: the examples of the chapter.
func TestHexExamples(t *testing.T) {
	hexIs(t, 98, "0000000000000062")
	parses(t, "0000000000000000", 0)
	fails(t, "1fffffffffffffff", api.ErrRange)
	fails(t, "000000000000000G", api.ErrSyntax)
	fails(t, "62", api.ErrSyntax)
}

// P7.5: the numbers at the ends of the ranges; Hex takes any number, Parse those below P.
func TestHexAtTheEnds(t *testing.T) {
	hexIs(t, 0, "0000000000000000")
	hexIs(t, 1, "0000000000000001")
	hexIs(t, p-1, "1ffffffffffffffe")
	hexIs(t, p, "1fffffffffffffff")
	hexIs(t, p+1, "2000000000000000")
	hexIs(t, 1<<63, "8000000000000000")
	hexIs(t, greatest, "ffffffffffffffff")
	hexIs(t, 0x0123456789abcdef, "0123456789abcdef")
	hexIs(t, 0xfedcba9876543210, "fedcba9876543210")
	parses(t, "0000000000000001", 1)
	parses(t, "0123456789abcdef", 0x0123456789abcdef)
	parses(t, "1ffffffffffffffe", p-1)
	for _, s := range []string{"1fffffffffffffff", "2000000000000000", "8000000000000000", "fedcba9876543210", "ffffffffffffffff"} {
		fails(t, s, api.ErrRange)
	}
}

// P7.5: each digit at each place.
func TestHexDigits(t *testing.T) {
	for place := range 16 {
		for digit := range 16 {
			d := uint64(digit) << (4 * (15 - place))
			s := "0000000000000000"[:place] + "0123456789abcdef"[digit:digit+1] + "0000000000000000"[place+1:]
			notationIs(t, d, s)
		}
	}
}

// P7.5: compared with the standard library, and Parse as the inverse of Hex.
func TestHex(t *testing.T) {
	list := numbers()
	draw := rand.New(rand.NewPCG(7, 5))
	for n := range 2000 {
		list = append(list, draw.Uint64()>>(n%64))
	}
	for _, d := range list {
		notationIs(t, d, hexDigits(d))
	}
}

// P7.5: a string has exactly sixteen bytes, whatever they are.
func TestParseLengths(t *testing.T) {
	for n := range 70 {
		if n == 16 {
			continue
		}
		for _, c := range []string{"0", "1", "f", "F", "x", " ", "\x00"} {
			fails(t, strings.Repeat(c, n), api.ErrSyntax)
		}
	}
	for _, s := range []string{"", "0", "62", "00000000000062", "000000000000062", "00000000000000062", "1ffffffffffffffe0", "01fffffffffffffff", "1ffffffffffffff", "ffffffffffffffff0"} {
		fails(t, s, api.ErrSyntax)
	}
	fails(t, strings.Repeat("0", 1<<20), api.ErrSyntax)
}

// P7.5: every byte but the sixteen digits is refused at each place, also in a number that is not below P.
func TestParseBytes(t *testing.T) {
	for place := range 16 {
		for c := range 256 {
			if strings.IndexByte("0123456789abcdef", byte(c)) >= 0 {
				continue
			}
			for _, s := range []string{"0000000000000000", "1ffffffffffffffe", "1fffffffffffffff", "ffffffffffffffff"} {
				text := []byte(s)
				text[place] = byte(c)
				fails(t, string(text), api.ErrSyntax)
			}
		}
	}
}

// P7.5: capital letters, prefixes, signs, blanks and characters beyond ASCII are no digits.
func TestParseForms(t *testing.T) {
	for _, s := range []string{
		"000000000000000A", "00000000000000FF", "1FFFFFFFFFFFFFFE", "1ffffffffffffffE", "FFFFFFFFFFFFFFFF", "0x00000000000062", "+000000000000062", "-000000000000062", "-000000000000000", " 000000000000062", "000000000000062 ",
		"000000000000062\n", "0000_0000_0000_6", "00000000-0000-06", "000000000000.062", "00000000000000\u0666", "\u0663\u0663\u0663\u0663\u0663\u0663\u0663\u0663", "0000000000000\uff11", "zzzzzzzzzzzzzzzz", "ffffffffffffffg0", "gfffffffffffffff",
	} {
		fails(t, s, api.ErrSyntax)
	}
	for _, s := range []string{"\u0660\u0660\u0660\u0660\u0660\u0660\u0660\u0660\u0660\u0660\u0660\u0660\u0660\u0660\u0660\u0660", "\uff10\uff10\uff10\uff10\uff10\uff10\uff10\uff10\uff10\uff10\uff10\uff10\uff10\uff10\uff10\uff10"} {
		fails(t, s, api.ErrSyntax)
	}
}
