package point_test

import "math/big"

func sum(a, b *big.Rat) *big.Rat        { return new(big.Rat).Add(a, b) }
func difference(a, b *big.Rat) *big.Rat { return new(big.Rat).Sub(a, b) }
func product(a, b *big.Rat) *big.Rat    { return new(big.Rat).Mul(a, b) }
func quotient(a, b *big.Rat) *big.Rat   { return new(big.Rat).Quo(a, b) }

func addOracle(a, b vec) vec            { return vec{sum(a.x, b.x), sum(a.y, b.y)} }
func subOracle(a, b vec) vec            { return vec{difference(a.x, b.x), difference(a.y, b.y)} }
func scaleOracle(a vec, r *big.Rat) vec { return vec{product(a.x, r), product(a.y, r)} }
func dotOracle(a, b vec) *big.Rat       { return sum(product(a.x, b.x), product(a.y, b.y)) }
func crossOracle(a, b vec) *big.Rat     { return difference(product(a.x, b.y), product(a.y, b.x)) }
func onOracle(a, b vec, t *big.Rat) vec {
	return addOracle(scaleOracle(a, difference(one(), t)), scaleOracle(b, t))
}
func one() *big.Rat              { return big.NewRat(1, 1) }
func sameOracle(a, b vec) bool   { return a.x.Cmp(b.x) == 0 && a.y.Cmp(b.y) == 0 }
func sideOracle(a, b, p vec) int { return area(a, b, p).Sign() }
func area(a, b, p vec) *big.Rat {
	return sum(sum(crossOracle(a, b), crossOracle(b, p)), crossOracle(p, a))
}

// equation returns u, v and w so that the line ab is that of the points with u x + v y = w.
func equation(a, b vec) (u, v, w *big.Rat) {
	u, v = difference(b.y, a.y), difference(a.x, b.x)
	return u, v, sum(product(u, a.x), product(v, a.y))
}

// meetOracle returns the common point of two lines by Cramer's rule, unless the determinant is 0.
func meetOracle(a, b, c, d vec) (vec, bool) {
	u, v, w := equation(a, b)
	k, l, m := equation(c, d)
	det := difference(product(u, l), product(v, k))
	if det.Sign() == 0 {
		return vec{}, false
	}
	x, y := difference(product(w, l), product(v, m)), difference(product(u, m), product(w, k))
	return vec{quotient(x, det), quotient(y, det)}, true
}

// footOracle returns the foot by the distance of p from the line, in the direction of its normal.
func footOracle(p, a, b vec) (vec, bool) {
	u, v, w := equation(a, b)
	n := vec{u, v}
	length := dotOracle(n, n)
	if length.Sign() == 0 {
		return vec{}, false
	}
	distance := quotient(difference(dotOracle(n, p), w), length)
	return subOracle(p, scaleOracle(n, distance)), true
}
