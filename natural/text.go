package natural

import (
	"strconv"
	"strings"

	"garment/api"
)

// billion is the greatest power of 10 that fits into a limb, so that a division by it yields nine digits at once.
const billion = 1000000000

// Text returns a in decimal notation.
func Text(a api.Nat) string {
	groups := groupsOfNine(a)
	if len(groups) == 0 {
		return "0"
	}
	last := len(groups) - 1
	var text strings.Builder
	text.WriteString(strconv.Itoa(int(groups[last])))
	for i := last - 1; i >= 0; i-- {
		// The digit 1 in front keeps the zeros behind it.
		text.WriteString(strconv.Itoa(int(billion + groups[i]))[1:])
	}
	return text.String()
}

// Parse returns the number with this notation.
func Parse(s string) (api.Nat, api.Errno) {
	if len(s) > api.MaxDigits {
		return nil, api.ErrTooLong
	}
	if !isNumeral(s) {
		return nil, api.ErrSyntax
	}
	number := api.Nat{}
	for i := range len(s) {
		number = appendDigit(number, s[i]-'0')
	}
	return number, api.OK
}

// groupsOfNine returns the digits of a in groups of nine, the lowest group first; 0 has no groups.
func groupsOfNine(a api.Nat) []uint32 {
	rest := Norm(a)
	var groups []uint32
	for len(rest) > 0 {
		groups = append(groups, divideByLimb(rest, billion))
		rest = trim(rest)
	}
	return groups
}

// isNumeral reports whether s consists of digits, without a leading zero unless it is "0".
func isNumeral(s string) bool {
	if s == "" || s[0] == '0' && len(s) > 1 {
		return false
	}
	for i := range len(s) {
		if s[i] < '0' || s[i] > '9' {
			return false
		}
	}
	return true
}

// appendDigit returns 10 * a + digit, in the memory of a if there is room. A trimmed number stays trimmed.
func appendDigit(a api.Nat, digit byte) api.Nat {
	carry := uint64(digit)
	for i, limb := range a {
		carry += 10 * uint64(limb)
		a[i] = uint32(carry)
		carry >>= limbBits
	}
	if carry != 0 {
		a = append(a, uint32(carry))
	}
	return a
}
