package measure

import (
	"strings"

	"garment/api"
	"garment/ratio"
)

// Parse returns the value of a measure, in units of the grid.
func Parse(s string) (api.Ratio, api.Errno) {
	if len(s) > api.MaxName {
		return api.Ratio{}, api.ErrTooLong
	}
	unsigned, negative := strings.CutPrefix(s, "-")
	value, unit := cutUnit(unsigned)
	size, isUnit := unitSize(unit)
	num, den, isValue := parseValue(value)
	if !isUnit || !isValue {
		return api.Ratio{}, api.ErrSyntax
	}
	if negative {
		num = -num
	}
	length, _ := ratio.Of(num*size, den)
	return length, api.OK
}

// cutUnit divides s before its first letter.
func cutUnit(s string) (value, unit string) {
	for i, c := range s {
		if isLetter(c) {
			return s[:i], s[i:]
		}
	}
	return s, ""
}

func isLetter(c rune) bool {
	return 'a' <= c && c <= 'z'
}

// unitSize returns how many units of the grid the unit of this name has.
func unitSize(name string) (int, bool) {
	switch name {
	case "mm":
		return perMillimetre, true
	case "cm":
		return 10 * perMillimetre, true
	case "m":
		return 1000 * perMillimetre, true
	case "in":
		return 254 * perMillimetre / 10, true
	}
	return 0, false
}

// parseValue returns the numerator and the denominator of a value, not in lowest terms.
func parseValue(s string) (num, den int, ok bool) {
	if above, below, divided := strings.Cut(s, "/"); divided {
		return parseFraction(above, below)
	}
	if whole, digits, pointed := strings.Cut(s, "."); pointed {
		return parseDecimal(whole, digits)
	}
	num, ok = parseWhole(s)
	return num, 1, ok
}

// parseFraction returns the value of what stands before the slash, a whole number or two of them, and of what stands behind it.
func parseFraction(above, below string) (num, den int, ok bool) {
	whole, isWhole := 0, true
	if first, second, mixed := strings.Cut(above, " "); mixed {
		whole, isWhole = parseWhole(first)
		above = second
	}
	part, isPart := parseWhole(above)
	den, isDen := parseWhole(below)
	ok = isWhole && isPart && isDen && den > 0 && den <= greatestDivisor
	return whole*den + part, den, ok
}

// parseDecimal returns the value of what stands before the point and of the digits behind it.
func parseDecimal(whole, digits string) (num, den int, ok bool) {
	if len(digits) > pointDigits {
		return 0, 0, false
	}
	num, isWhole := parseWhole(whole)
	part, isPart := parseDigits(digits)
	den = 1
	for range digits {
		den *= 10
	}
	return num*den + part, den, isWhole && isPart
}

// parseWhole returns the value of a whole number.
func parseWhole(s string) (int, bool) {
	if len(s) > wholeDigits || len(s) > 1 && s[0] == '0' {
		return 0, false
	}
	return parseDigits(s)
}

// parseDigits returns the value of at least one digit.
func parseDigits(s string) (int, bool) {
	n := 0
	for _, c := range s {
		if c < '0' || c > '9' {
			return 0, false
		}
		n = 10*n + int(c-'0')
	}
	return n, s != ""
}
