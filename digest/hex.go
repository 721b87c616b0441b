package digest

import (
	"strings"

	"garment/api"
)

const (
	hexDigits = "0123456789abcdef"
	hexBits   = 4
	hexLength = 16
)

// Hex returns d as sixteen hexadecimal digits.
func Hex(d uint64) string {
	digits := make([]byte, hexLength)
	for i := range digits {
		digits[hexLength-1-i] = hexDigits[d%(1<<hexBits)]
		d >>= hexBits
	}
	return string(digits)
}

// Parse returns the digest whose Hex is s.
func Parse(s string) (uint64, api.Errno) {
	if len(s) != hexLength {
		return 0, api.ErrSyntax
	}
	d := uint64(0)
	for i := range len(s) {
		digit := strings.IndexByte(hexDigits, s[i])
		if digit < 0 {
			return 0, api.ErrSyntax
		}
		d = d<<hexBits | uint64(digit)
	}
	if d >= modulus {
		return 0, api.ErrRange
	}
	return d, api.OK
}
