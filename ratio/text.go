package ratio

import (
	"strings"

	"garment/api"
	"garment/integer"
	"garment/natural"
)

// Text returns the numerator of a in lowest terms, followed by a slash and the denominator unless that is 1.
func Text(a api.Ratio) string {
	a = Norm(a)
	if isOne(a.Den) {
		return integer.Text(a.Num)
	}
	return integer.Text(a.Num) + "/" + natural.Text(a.Den)
}

// Parse returns the ratio whose Text is s.
func Parse(s string) (api.Ratio, api.Errno) {
	above, below, divided := strings.Cut(s, "/")
	num, e := integer.Parse(above)
	if e != api.OK {
		return api.Ratio{}, e
	}
	if !divided {
		return api.Ratio{Num: num, Den: natural.Of(1)}, api.OK
	}
	den, e := natural.Parse(below)
	if e != api.OK {
		return api.Ratio{}, e
	}
	if isZero(den) || isOne(den) || !isOne(natural.Gcd(num.Mag, den)) {
		return api.Ratio{}, api.ErrSyntax
	}
	return api.Ratio{Num: num, Den: den}, api.OK
}

func isOne(a api.Nat) bool {
	return natural.Cmp(a, natural.Of(1)) == 0
}
