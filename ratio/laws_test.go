package ratio_test

import (
	"testing"

	"garment/api"
	"garment/integer"
	"garment/ratio"
)

// P3.3: sums and products are commutative, 0 and 1 are neutral, and differences and quotients undo them.
func TestLawsOfPairs(t *testing.T) {
	for _, a := range samples() {
		same(t, "a + 0", ratio.Add(a, fraction(0, 1)), ratio.Norm(a))
		same(t, "a * 1", ratio.Mul(a, fraction(1, 1)), ratio.Norm(a))
		same(t, "a * 0", ratio.Mul(a, fraction(0, 1)), fraction(0, 1))
		same(t, "a + (-a)", ratio.Add(a, ratio.Neg(a)), fraction(0, 1))
	}
	pairs(func(a, b api.Ratio) {
		same(t, "a + b", ratio.Add(a, b), ratio.Add(b, a))
		same(t, "a * b", ratio.Mul(a, b), ratio.Mul(b, a))
		same(t, "a - b", ratio.Sub(a, b), ratio.Add(a, ratio.Neg(b)))
		q, ok := ratio.Div(a, b)
		if ok != (ratio.Cmp(b, fraction(0, 1)) != 0) {
			t.Errorf("Div(%v, %v): %t", a, b, ok)
		}
		if ok {
			same(t, "b * (a / b)", ratio.Mul(b, q), ratio.Norm(a))
		}
	})
}

// P3.3: sums and products are associative, and products distribute over sums.
func TestLawsOfTriples(t *testing.T) {
	triples(func(a, b, c api.Ratio) {
		same(t, "(a + b) + c", ratio.Add(ratio.Add(a, b), c), ratio.Add(a, ratio.Add(b, c)))
		same(t, "(a * b) * c", ratio.Mul(ratio.Mul(a, b), c), ratio.Mul(a, ratio.Mul(b, c)))
		same(t, "a * (b + c)", ratio.Mul(a, ratio.Add(b, c)), ratio.Add(ratio.Mul(a, b), ratio.Mul(a, c)))
	})
}

// P3.4: the order is total, and half the sum of two different numbers lies strictly between them.
func TestLawsOfOrder(t *testing.T) {
	pairs(func(a, b api.Ratio) {
		n := ratio.Cmp(a, b)
		if ratio.Cmp(b, a) != -n || ratio.Cmp(a, a) != 0 {
			t.Errorf("Cmp(%v, %v): %d, and %d the other way", a, b, n, ratio.Cmp(b, a))
		}
		half := ratio.Mul(ratio.Add(a, b), fraction(1, 2))
		if ratio.Cmp(a, half) != n || ratio.Cmp(half, b) != n {
			t.Errorf("half the sum of %v and %v is %v", a, b, half)
		}
	})
}

// P3.4: the order is transitive, is kept by sums and by positive factors, and is reversed by negative factors.
func TestLawsOfOrderOfTriples(t *testing.T) {
	triples(func(a, b, c api.Ratio) {
		n := ratio.Cmp(a, b)
		if n <= 0 && ratio.Cmp(b, c) <= 0 && ratio.Cmp(a, c) > 0 {
			t.Errorf("%v, %v and %v are not in order", a, b, c)
		}
		if ratio.Cmp(ratio.Add(a, c), ratio.Add(b, c)) != n {
			t.Errorf("%v and %v, and with %v added", a, b, c)
		}
		if ratio.Cmp(ratio.Mul(a, c), ratio.Mul(b, c)) != n*ratio.Cmp(c, fraction(0, 1)) {
			t.Errorf("%v and %v, and multiplied by %v", a, b, c)
		}
	})
}

// P3.5
func TestLawsOfRounding(t *testing.T) {
	for _, a := range samples() {
		below, near := ofInt(ratio.Floor(a)), ofInt(ratio.Round(a))
		if ratio.Cmp(below, a) > 0 || ratio.Cmp(a, ratio.Add(below, fraction(1, 1))) >= 0 {
			t.Errorf("Floor(%v): %v", a, below)
		}
		distance := magnitude(ratio.Sub(near, a))
		tie := ratio.Cmp(distance, fraction(1, 2))
		if tie > 0 || tie == 0 && ratio.Cmp(magnitude(near), magnitude(a)) <= 0 {
			t.Errorf("Round(%v): %v", a, near)
		}
		sameInt(t, "Round of the negative", ratio.Round(ratio.Neg(a)), integer.Neg(ratio.Round(a)))
	}
}

// P3.5: Floor of a plus an integer is Floor of a, plus this integer; for Round this is not so.
func TestLawOfFloor(t *testing.T) {
	list := []api.Int{{}, integer.Of(1), integer.Of(-1), integer.Of(7), integer.Of(-1 << 63), {Mag: api.Nat{0, 0, 0, 1}}, {Neg: true, Mag: api.Nat{full, full, full}}}
	for _, a := range samples() {
		for _, n := range list {
			sameInt(t, "Floor of a sum", ratio.Floor(ratio.Add(a, ofInt(n))), integer.Add(ratio.Floor(a), n))
		}
	}
	sameInt(t, "Round", ratio.Round(ratio.Add(fraction(-1, 2), fraction(1, 1))), integer.Of(1))
	sameInt(t, "Round", integer.Add(ratio.Round(fraction(-1, 2)), integer.Of(1)), integer.Of(0))
}

// ofInt returns n as a ratio.
func ofInt(n api.Int) api.Ratio {
	return api.Ratio{Num: n, Den: api.Nat{1}}
}

// magnitude returns a without its sign.
func magnitude(a api.Ratio) api.Ratio {
	if ratio.Cmp(a, fraction(0, 1)) < 0 {
		return ratio.Neg(a)
	}
	return a
}
