package natural_test

import (
	"math/big"
	"testing"

	"garment/api"
	"garment/natural"
)

// divides fails the test unless DivMod of a and b, which is not 0, agrees with the oracle.
func divides(t *testing.T, a, b api.Nat) {
	t.Helper()
	q, r, ok := natural.DivMod(a, b)
	quotient, rest := new(big.Int).QuoRem(value(a), value(b), new(big.Int))
	if !ok {
		t.Errorf("DivMod(%v, %v) is false", a, b)
	}
	same(t, "quotient", q, limbs(quotient))
	same(t, "remainder", r, limbs(rest))
}

// P1.5
func TestDivMod(t *testing.T) {
	for _, x := range []struct{ a, b, q, r api.Nat }{
		{api.Nat{17}, api.Nat{5}, api.Nat{3}, api.Nat{2}}, {api.Nat{100}, api.Nat{7}, api.Nat{14}, api.Nat{2}},
		{nil, api.Nat{3}, nil, nil}, {api.Nat{0, 0}, api.Nat{3, 0}, nil, nil}, {api.Nat{3, 0}, api.Nat{5, 0, 0}, nil, api.Nat{3}},
		{api.Nat{5, 0}, api.Nat{1, 0}, api.Nat{5}, nil}, {api.Nat{1, 2, 3}, api.Nat{1, 2, 3, 0}, api.Nat{1}, nil},
		{api.Nat{1, 2, 3}, api.Nat{2, 2, 3}, nil, api.Nat{1, 2, 3}}, {api.Nat{7, 0, 1}, api.Nat{0, 0, 1}, api.Nat{1}, api.Nat{7}},
	} {
		q, r, ok := natural.DivMod(x.a, x.b)
		if !ok {
			t.Errorf("DivMod(%v, %v) is false", x.a, x.b)
		}
		same(t, "quotient", q, x.q)
		same(t, "remainder", r, x.r)
	}
	pairs(func(a, b api.Nat) {
		if value(b).Sign() != 0 {
			divides(t, a, b)
		}
	})
}

// P1.5
func TestDivModByZero(t *testing.T) {
	for _, a := range samples() {
		for _, b := range []api.Nat{nil, {}, {0}, {0, 0, 0}} {
			if q, r, ok := natural.DivMod(a, b); ok || len(q) != 0 || len(r) != 0 {
				t.Errorf("DivMod(%v, %v): %v, %v, %v", a, b, q, r, ok)
			}
		}
	}
}

// P1.5: divisions in which the first guess of a digit is too great, by one or by two, or exceeds a limb.
func TestDivModGuesses(t *testing.T) {
	for _, x := range []struct{ a, b api.Nat }{
		{api.Nat{3, 0, 0x80000000}, api.Nat{1, 0, 0x20000000}},
		{api.Nat{0, 0, 0x8000, 0x7fff}, api.Nat{1, 0, 0x8000}},
		{api.Nat{0, 0, 0x80000000, 0x7fffffff}, api.Nat{1, 0, 0x80000000}},
		{api.Nat{0, full - 1, 0x80000000}, api.Nat{full, 0x80000000}},
		{api.Nat{0, full - 1, 0x80000000}, api.Nat{0xffff, 0x80000000}},
		{api.Nat{0, 0, 0, 1}, api.Nat{full, full}},
		{api.Nat{full, full, full, full}, api.Nat{full, full}},
		{api.Nat{0, full, full - 1}, api.Nat{full, full}},
		{api.Nat{0, 0, full - 1, full}, api.Nat{1, full, full}},
	} {
		divides(t, x.a, x.b)
	}
}

// P1.5: a product less 1 has the digits that are hardest to guess.
func TestDivModNearMultiples(t *testing.T) {
	pairs(func(a, b api.Nat) {
		product := new(big.Int).Mul(value(a), value(b))
		if product.Sign() == 0 {
			return
		}
		divides(t, limbs(product), b)
		divides(t, limbs(product.Sub(product, big.NewInt(1))), b)
	})
}

// P1.6
func TestGcd(t *testing.T) {
	for _, x := range []struct{ a, b, want api.Nat }{
		{nil, nil, nil}, {api.Nat{0}, api.Nat{0, 0}, nil}, {api.Nat{12}, api.Nat{18}, api.Nat{6}},
		{api.Nat{18, 0}, api.Nat{12}, api.Nat{6}}, {api.Nat{7, 0}, nil, api.Nat{7}}, {api.Nat{0}, api.Nat{0, 5, 0}, api.Nat{0, 5}},
		{api.Nat{1, 2, 3, 4, 0}, api.Nat{0}, api.Nat{1, 2, 3, 4}}, {nil, api.Nat{1, 2, 3, 4}, api.Nat{1, 2, 3, 4}},
		{api.Nat{1, 2, 3, 4}, api.Nat{1, 2, 3, 4}, api.Nat{1, 2, 3, 4}}, {api.Nat{0, 0, 0, 6}, api.Nat{0, 0, 0, 4}, api.Nat{0, 0, 0, 2}},
		{api.Nat{0, 0, 0, 1}, api.Nat{0, 1}, api.Nat{0, 1}}, {api.Nat{1}, api.Nat{0, 0, 9}, api.Nat{1}},
	} {
		same(t, "Gcd", natural.Gcd(x.a, x.b), x.want)
	}
	pairs(func(a, b api.Nat) {
		same(t, "Gcd", natural.Gcd(a, b), limbs(new(big.Int).GCD(nil, nil, value(a), value(b))))
	})
}

// P1.6: with a common factor the divisor has many limbs.
func TestGcdOfMultiples(t *testing.T) {
	for _, factor := range []api.Nat{{6}, {full, full}, {5, 0, 0, 7}, {1, 2, 3, 4, 5, 6}} {
		pairs(func(a, b api.Nat) {
			x, y := natural.Mul(a, factor), natural.Mul(b, factor)
			same(t, "Gcd", natural.Gcd(x, y), limbs(new(big.Int).GCD(nil, nil, value(x), value(y))))
		})
	}
}

// P1.7
func TestSqrt(t *testing.T) {
	for n := range uint64(2000) {
		root := new(big.Int).Sqrt(new(big.Int).SetUint64(n))
		same(t, "Sqrt", natural.Sqrt(natural.Of(n)), limbs(root))
	}
	for _, x := range []struct{ a, want api.Nat }{
		{nil, nil}, {api.Nat{0, 0}, nil}, {api.Nat{99}, api.Nat{9}}, {api.Nat{100, 0}, api.Nat{10}}, {api.Nat{full}, api.Nat{65535}},
		{api.Nat{0, 1}, api.Nat{65536}}, {api.Nat{full, full}, api.Nat{full}}, {api.Nat{0, 0, 1}, api.Nat{0, 1}},
		{api.Nat{0, 0, 1, 0}, api.Nat{0, 1}}, {api.Nat{1, full - 1}, api.Nat{full}}, {api.Nat{0, full - 1}, api.Nat{full - 1}},
	} {
		same(t, "Sqrt", natural.Sqrt(x.a), x.want)
	}
	for _, a := range samples() {
		same(t, "Sqrt", natural.Sqrt(a), limbs(new(big.Int).Sqrt(value(a))))
	}
}

// P1.7: squares, and their neighbours.
func TestSqrtOfSquares(t *testing.T) {
	one := big.NewInt(1)
	for _, a := range samples() {
		side := value(a)
		square := new(big.Int).Mul(side, side)
		same(t, "Sqrt of a square", natural.Sqrt(limbs(square)), limbs(side))
		if side.Sign() == 0 {
			continue
		}
		same(t, "Sqrt above a square", natural.Sqrt(limbs(new(big.Int).Add(square, one))), limbs(side))
		same(t, "Sqrt below a square", natural.Sqrt(limbs(square.Sub(square, one))), limbs(side.Sub(side, one)))
	}
}
