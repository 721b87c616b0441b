package ratio_test

import (
	"math"
	"math/big"
	"testing"

	"garment/api"
	"garment/ratio"
)

// P3.1
func TestOf(t *testing.T) {
	for _, x := range []struct {
		num, den int
		want     api.Ratio
	}{
		{6, -4, fraction(-3, 2)}, {-6, 4, fraction(-3, 2)}, {6, 4, fraction(3, 2)}, {-6, -4, fraction(3, 2)},
		{0, -5, fraction(0, 1)}, {0, 5, fraction(0, 1)}, {5, 1, fraction(5, 1)}, {5, -1, fraction(-5, 1)}, {-8, 4, fraction(-2, 1)},
		{math.MinInt, -1, api.Ratio{Num: api.Int{Mag: api.Nat{0, 0x80000000}}, Den: api.Nat{1}}},
		{math.MinInt, 1, fraction(math.MinInt, 1)}, {math.MinInt, math.MinInt, fraction(1, 1)}, {math.MaxInt, math.MinInt, api.Ratio{
			Num: api.Int{Neg: true, Mag: api.Nat{full, 0x7fffffff}}, Den: api.Nat{0, 0x80000000}}},
		{1, math.MinInt, api.Ratio{Num: api.Int{Neg: true, Mag: api.Nat{1}}, Den: api.Nat{0, 0x80000000}}},
		{0, math.MinInt, fraction(0, 1)}, {math.MaxInt, math.MaxInt, fraction(1, 1)}, {1, math.MaxInt, fraction(1, math.MaxInt)},
	} {
		a, ok := ratio.Of(x.num, x.den)
		same(t, "Of", a, x.want)
		if !ok {
			t.Errorf("Of(%d, %d) is false", x.num, x.den)
		}
	}
}

// P3.1
func TestOfManyInts(t *testing.T) {
	list := []int{0, 1, -1, 2, -2, 3, 12, -18, 360, full, full + 1, -full - 1, math.MaxInt, math.MaxInt - 1, math.MinInt, math.MinInt + 1}
	for _, num := range list {
		for _, den := range list[1:] {
			a, ok := ratio.Of(num, den)
			same(t, "Of", a, normal(new(big.Rat).SetFrac(big.NewInt(int64(num)), big.NewInt(int64(den)))))
			if !ok {
				t.Errorf("Of(%d, %d) is false", num, den)
			}
		}
		a, ok := ratio.Of(num, 0)
		same(t, "Of by 0", a, api.Ratio{})
		if ok {
			t.Errorf("Of(%d, 0) is true", num)
		}
	}
}

// P3.1
func TestNorm(t *testing.T) {
	same(t, "Norm", ratio.Norm(fraction(4, 6)), fraction(2, 3))
	same(t, "Norm", ratio.Norm(fraction(-4, 6)), fraction(-2, 3))
	same(t, "Norm", ratio.Norm(fraction(5, 0)), fraction(0, 1))
	for _, zero := range zeros() {
		same(t, "Norm", ratio.Norm(zero), fraction(0, 1))
	}
	for _, a := range samples() {
		same(t, "Norm", ratio.Norm(a), normal(value(a)))
	}
}

// P3.1
func TestCmp(t *testing.T) {
	for _, x := range []struct {
		a, b api.Ratio
		want int
	}{
		{fraction(-1, 2), fraction(-1, 3), -1}, {fraction(-1, 3), fraction(-1, 2), 1}, {fraction(1, 2), fraction(1, 3), 1},
		{fraction(1, 3), fraction(1, 2), -1}, {fraction(2, 4), fraction(3, 6), 0}, {fraction(-2, 4), fraction(-3, 6), 0},
		{fraction(-1, 2), fraction(1, 2), -1}, {fraction(1, 2), fraction(-1, 2), 1}, {fraction(0, 3), fraction(0, 5), 0},
		{fraction(4, 0), fraction(0, 1), 0}, {fraction(4, 0), fraction(-1, 9), 1}, {fraction(1, 9), fraction(-4, 0), 1},
		{fraction(-4, 0), fraction(4, 0), 0}, {fraction(-4, 0), fraction(1, 9), -1}, {fraction(4, 0), fraction(9, 1), -1},
	} {
		if n := ratio.Cmp(x.a, x.b); n != x.want {
			t.Errorf("Cmp(%v, %v): %d, not %d", x.a, x.b, n, x.want)
		}
	}
	pairs(func(a, b api.Ratio) {
		if n := ratio.Cmp(a, b); n != value(a).Cmp(value(b)) {
			t.Errorf("Cmp(%v, %v): %d", a, b, n)
		}
	})
}

// P3.1
func TestNeg(t *testing.T) {
	same(t, "Neg", ratio.Neg(fraction(6, 4)), fraction(-3, 2))
	same(t, "Neg", ratio.Neg(fraction(-6, 4)), fraction(3, 2))
	for _, zero := range zeros() {
		same(t, "Neg", ratio.Neg(zero), fraction(0, 1))
	}
	for _, a := range samples() {
		same(t, "Neg", ratio.Neg(a), normal(new(big.Rat).Neg(value(a))))
	}
}

// P3.1
func TestArithmetic(t *testing.T) {
	for _, x := range []struct{ a, b, sum, difference, product api.Ratio }{
		{fraction(1, 6), fraction(1, 3), fraction(1, 2), fraction(-1, 6), fraction(1, 18)},
		{fraction(-2, 3), fraction(9, 4), fraction(19, 12), fraction(-35, 12), fraction(-3, 2)},
		{fraction(1, 2), fraction(1, 3), fraction(5, 6), fraction(1, 6), fraction(1, 6)},
		{fraction(1, 2), fraction(1, 2), fraction(1, 1), fraction(0, 1), fraction(1, 4)},
		{fraction(1, 2), fraction(-2, 4), fraction(0, 1), fraction(1, 1), fraction(-1, 4)},
		{fraction(3, 4), fraction(7, 0), fraction(3, 4), fraction(3, 4), fraction(0, 1)},
		{fraction(-7, 0), fraction(3, 4), fraction(3, 4), fraction(-3, 4), fraction(0, 1)},
		{fraction(4, 0), fraction(-7, 0), fraction(0, 1), fraction(0, 1), fraction(0, 1)},
	} {
		same(t, "Add", ratio.Add(x.a, x.b), x.sum)
		same(t, "Sub", ratio.Sub(x.a, x.b), x.difference)
		same(t, "Mul", ratio.Mul(x.a, x.b), x.product)
	}
	pairs(func(a, b api.Ratio) {
		same(t, "Add", ratio.Add(a, b), normal(new(big.Rat).Add(value(a), value(b))))
		same(t, "Sub", ratio.Sub(a, b), normal(new(big.Rat).Sub(value(a), value(b))))
		same(t, "Mul", ratio.Mul(a, b), normal(new(big.Rat).Mul(value(a), value(b))))
	})
}

// P3.1
func TestDiv(t *testing.T) {
	for _, x := range []struct{ a, b, want api.Ratio }{
		{fraction(1, 2), fraction(-3, 4), fraction(-2, 3)}, {fraction(-1, 2), fraction(-3, 4), fraction(2, 3)},
		{fraction(5, 6), fraction(5, 3), fraction(1, 2)}, {fraction(6, 4), fraction(3, 2), fraction(1, 1)},
		{fraction(0, 1), fraction(-3, 4), fraction(0, 1)}, {fraction(5, 0), fraction(3, 4), fraction(0, 1)}, {fraction(-5, 0), fraction(-3, 4), fraction(0, 1)},
	} {
		q, ok := ratio.Div(x.a, x.b)
		same(t, "Div", q, x.want)
		if !ok {
			t.Errorf("Div(%v, %v) is false", x.a, x.b)
		}
	}
	pairs(func(a, b api.Ratio) {
		if value(b).Sign() == 0 {
			return
		}
		q, ok := ratio.Div(a, b)
		same(t, "Div", q, normal(new(big.Rat).Quo(value(a), value(b))))
		if !ok {
			t.Errorf("Div(%v, %v) is false", a, b)
		}
	})
}

// P3.1: Div by 0 in any form is the zero Ratio, without limbs, and false.
func TestDivByZero(t *testing.T) {
	for _, zero := range zeros() {
		for _, a := range samples() {
			q, ok := ratio.Div(a, zero)
			same(t, "Div by 0", q, api.Ratio{})
			if ok {
				t.Errorf("Div(%v, %v) is true", a, zero)
			}
		}
	}
}

// P3.1
func TestRounding(t *testing.T) {
	for _, x := range []struct{ num, den, floor, round int64 }{
		{7, 2, 3, 4}, {-7, 2, -4, -4}, {10, 3, 3, 3}, {-10, 3, -4, -3}, {8, 3, 2, 3}, {-8, 3, -3, -3}, {5, 1, 5, 5}, {-5, 1, -5, -5},
		{1, 2, 0, 1}, {-1, 2, -1, -1}, {3, 6, 0, 1}, {-3, 6, -1, -1}, {1, 3, 0, 0}, {-1, 3, -1, 0}, {2, 3, 0, 1}, {-2, 3, -1, -1},
		{3, 2, 1, 2}, {-3, 2, -2, -2}, {5, 2, 2, 3}, {-5, 2, -3, -3}, {-8, 4, -2, -2}, {0, 4, 0, 0}, {5, 0, 0, 0}, {-5, 0, 0, 0},
		{math.MaxInt, 2, math.MaxInt / 2, math.MaxInt/2 + 1}, {math.MinInt, 1, math.MinInt, math.MinInt}, {math.MinInt + 1, 2, math.MinInt / 2, math.MinInt / 2},
	} {
		a := fraction(x.num, x.den)
		sameInt(t, "Floor", ratio.Floor(a), normalInt(big.NewInt(x.floor)))
		sameInt(t, "Round", ratio.Round(a), normalInt(big.NewInt(x.round)))
	}
	for _, zero := range zeros() {
		sameInt(t, "Floor of 0", ratio.Floor(zero), api.Int{})
		sameInt(t, "Round of 0", ratio.Round(zero), api.Int{})
	}
	for _, a := range samples() {
		sameInt(t, "Floor", ratio.Floor(a), normalInt(floor(value(a))))
		sameInt(t, "Round", ratio.Round(a), normalInt(round(value(a))))
	}
}

// floor returns the greatest integer that is at most v.
func floor(v *big.Rat) *big.Int {
	// The division of the standard library rounds down, because the denominator is above 0.
	return new(big.Int).Div(v.Num(), v.Denom())
}

// round returns the integer nearest to v, halves away from zero.
func round(v *big.Rat) *big.Int {
	if v.Sign() < 0 {
		n := round(new(big.Rat).Neg(v))
		return n.Neg(n)
	}
	return floor(new(big.Rat).Add(v, big.NewRat(1, 2)))
}

// P3.2: numbers in other forms have the results of those in normal form.
func TestForms(t *testing.T) {
	list := samples()
	for i, a := range list {
		b := list[(i+7)%len(list)]
		normalA, normalB := normal(value(a)), normal(value(b))
		for _, formA := range forms(normalA) {
			for _, formB := range forms(normalB) {
				sameResults(t, formA, formB, normalA, normalB)
			}
		}
	}
}

// sameResults fails the test unless all functions have the same results for a and b as for c and d.
func sameResults(t *testing.T, a, b, c, d api.Ratio) {
	t.Helper()
	same(t, "Norm", ratio.Norm(a), ratio.Norm(c))
	same(t, "Neg", ratio.Neg(a), ratio.Neg(c))
	same(t, "Add", ratio.Add(a, b), ratio.Add(c, d))
	same(t, "Sub", ratio.Sub(a, b), ratio.Sub(c, d))
	same(t, "Mul", ratio.Mul(a, b), ratio.Mul(c, d))
	sameInt(t, "Floor", ratio.Floor(a), ratio.Floor(c))
	sameInt(t, "Round", ratio.Round(a), ratio.Round(c))
	q, ok := ratio.Div(a, b)
	want, is := ratio.Div(c, d)
	same(t, "Div", q, want)
	if ok != is || ratio.Cmp(a, b) != ratio.Cmp(c, d) || ratio.Text(a) != ratio.Text(c) {
		t.Errorf("%v and %v: %t, %d, %s", a, b, ok, ratio.Cmp(a, b), ratio.Text(a))
	}
}
