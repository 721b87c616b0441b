package integer

import (
	"strings"

	"garment/api"
	"garment/natural"
)

// Text returns a in decimal notation.
func Text(a api.Int) string {
	if sign(a) < 0 {
		return "-" + natural.Text(a.Mag)
	}
	return natural.Text(a.Mag)
}

// Parse returns the integer that s denotes.
func Parse(s string) (api.Int, api.Errno) {
	digits, negative := strings.CutPrefix(s, "-")
	magnitude, e := natural.Parse(digits)
	if e != api.OK {
		return api.Int{}, e
	}
	if negative && len(magnitude) == 0 {
		return api.Int{}, api.ErrSyntax
	}
	return signed(negative, magnitude), api.OK
}
