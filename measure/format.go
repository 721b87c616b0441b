package measure

import (
	"strconv"
	"strings"

	"garment/api"
	"garment/integer"
	"garment/ratio"
)

// tenThousand is 1 with as many zeros as there may be digits behind the point.
const tenThousand = 10000

// Format returns a length in millimetres.
func Format(r api.Ratio) (string, api.Errno) {
	v, _ := ratio.Div(r, integral(perMillimetre))
	sign := ""
	if v.Num.Neg {
		v, sign = ratio.Neg(v), "-"
	}
	n, ok := integer.Small(ratio.Floor(v))
	if !ok || n > greatestWhole {
		return "", api.ErrRange
	}
	value, ok := formatValue(n, ratio.Sub(v, integral(n)))
	if !ok {
		return "", api.ErrRange
	}
	return sign + value + "mm", api.OK
}

// integral returns n as a ratio.
func integral(n int) api.Ratio {
	r, _ := ratio.Of(n, 1)
	return r
}

// formatValue returns the text of n and a rest below 1, or false if the rest needs too great a denominator.
func formatValue(n int, rest api.Ratio) (string, bool) {
	num, _ := integer.Small(rest.Num)
	den, small := integer.Small(api.Int{Mag: rest.Den})
	switch {
	case !small:
		return "", false
	case tenThousand%den == 0:
		return formatDecimal(n, num*(tenThousand/den)), true
	case den <= greatestDivisor:
		return formatFraction(n, num, den), true
	}
	return "", false
}

// formatDecimal returns the text of n and of so many ten thousandths.
func formatDecimal(n, parts int) string {
	if parts == 0 {
		return strconv.Itoa(n)
	}
	// The digit 1 in front keeps the zeros behind it.
	digits := strconv.Itoa(tenThousand + parts)[1:]
	return strconv.Itoa(n) + "." + strings.TrimRight(digits, "0")
}

// formatFraction returns the text of n and a proper fraction.
func formatFraction(n, num, den int) string {
	fraction := strconv.Itoa(num) + "/" + strconv.Itoa(den)
	if n == 0 {
		return fraction
	}
	return strconv.Itoa(n) + " " + fraction
}
