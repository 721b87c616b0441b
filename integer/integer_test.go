package integer_test

import (
	"math"
	"math/big"
	"testing"

	"garment/api"
	"garment/integer"
)

// P2.1
func TestOf(t *testing.T) {
	for _, x := range []struct {
		n    int
		want api.Int
	}{
		{0, api.Int{}}, {1, api.Int{Mag: api.Nat{1}}}, {-1, api.Int{Neg: true, Mag: api.Nat{1}}}, {-5, api.Int{Neg: true, Mag: api.Nat{5}}},
		{full, api.Int{Mag: api.Nat{full}}}, {full + 1, api.Int{Mag: api.Nat{0, 1}}}, {-full - 1, api.Int{Neg: true, Mag: api.Nat{0, 1}}},
		{math.MaxInt, api.Int{Mag: api.Nat{full, 0x7fffffff}}}, {-math.MaxInt, api.Int{Neg: true, Mag: api.Nat{full, 0x7fffffff}}},
		{math.MinInt, api.Int{Neg: true, Mag: api.Nat{0, 0x80000000}}},
	} {
		same(t, "Of", integer.Of(x.n), x.want)
	}
	for _, n := range ints() {
		same(t, "Of", integer.Of(n), normal(big.NewInt(int64(n))))
	}
}

// P2.1
func TestNorm(t *testing.T) {
	for _, x := range []struct{ a, want api.Int }{
		{api.Int{Neg: true, Mag: api.Nat{0, 0}}, api.Int{}}, {api.Int{Neg: true}, api.Int{}}, {api.Int{Mag: api.Nat{0}}, api.Int{}},
		{api.Int{Neg: true, Mag: api.Nat{5, 0, 0}}, api.Int{Neg: true, Mag: api.Nat{5}}},
		{api.Int{Mag: api.Nat{0, 1, 0}}, api.Int{Mag: api.Nat{0, 1}}},
	} {
		same(t, "Norm", integer.Norm(x.a), x.want)
	}
	for _, a := range samples() {
		same(t, "Norm", integer.Norm(a), normal(value(a)))
	}
}

// P2.1: the results for numbers in another form are those for the numbers in normal form.
func TestForms(t *testing.T) {
	for name, call := range calls() {
		pairs(func(a, b api.Int) {
			want := call(normal(value(a)), normal(value(b)))
			for i, got := range call(a, b) {
				same(t, name, got, want[i])
				same(t, name, got, normal(value(got)))
			}
		})
	}
	pairs(func(a, b api.Int) {
		if integer.Cmp(a, b) != integer.Cmp(normal(value(a)), normal(value(b))) {
			t.Errorf("Cmp(%v, %v)", a, b)
		}
	})
	for _, a := range samples() {
		n, ok := integer.Small(a)
		if m, is := integer.Small(normal(value(a))); n != m || ok != is {
			t.Errorf("Small(%v): %d, %v, not %d, %v", a, n, ok, m, is)
		}
		if s, want := integer.Text(a), integer.Text(normal(value(a))); s != want {
			t.Errorf("Text(%v): %s, not %s", a, s, want)
		}
	}
}

// P2.2
func TestCmp(t *testing.T) {
	minus := func(n uint32) api.Int { return api.Int{Neg: true, Mag: api.Nat{n, 0}} }
	for _, x := range []struct {
		a, b api.Int
		want int
	}{
		{api.Int{}, api.Int{Neg: true, Mag: api.Nat{0, 0}}, 0}, {minus(0), minus(0), 0}, {minus(0), minus(1), 1}, {minus(1), minus(0), -1},
		{minus(5), integer.Of(3), -1}, {integer.Of(3), minus(5), 1}, {minus(5), minus(6), 1}, {minus(6), minus(5), -1},
		{minus(0), integer.Of(1), -1}, {integer.Of(1), minus(0), 1}, {integer.Of(7), integer.Of(7), 0}, {minus(7), integer.Of(-7), 0},
	} {
		if n := integer.Cmp(x.a, x.b); n != x.want {
			t.Errorf("Cmp(%v, %v): %d, not %d", x.a, x.b, n, x.want)
		}
	}
	pairs(func(a, b api.Int) {
		if n := integer.Cmp(a, b); n != value(a).Cmp(value(b)) {
			t.Errorf("Cmp(%v, %v): %d", a, b, n)
		}
	})
}

// P2.3
func TestNeg(t *testing.T) {
	same(t, "Neg", integer.Neg(integer.Of(5)), integer.Of(-5))
	same(t, "Neg", integer.Neg(integer.Of(-5)), integer.Of(5))
	same(t, "Neg", integer.Neg(api.Int{}), api.Int{})
	same(t, "Neg", integer.Neg(api.Int{Neg: true, Mag: api.Nat{0}}), api.Int{})
	for _, a := range samples() {
		same(t, "Neg", integer.Neg(a), normal(new(big.Int).Neg(value(a))))
	}
}

// P2.3
func TestArithmetic(t *testing.T) {
	for _, x := range []struct{ a, b, sum, difference, product int }{
		{-5, 3, -2, -8, -15}, {-5, -3, -8, -2, 15}, {3, 5, 8, -2, 15}, {3, -5, -2, 8, -15}, {5, -5, 0, 10, -25}, {-5, 5, 0, -10, -25},
		{0, -7, -7, 7, 0}, {-7, 0, -7, -7, 0}, {0, 0, 0, 0, 0},
	} {
		a, b := integer.Of(x.a), integer.Of(x.b)
		same(t, "Add", integer.Add(a, b), integer.Of(x.sum))
		same(t, "Sub", integer.Sub(a, b), integer.Of(x.difference))
		same(t, "Mul", integer.Mul(a, b), integer.Of(x.product))
	}
	pairs(func(a, b api.Int) {
		same(t, "Add", integer.Add(a, b), normal(new(big.Int).Add(value(a), value(b))))
		same(t, "Sub", integer.Sub(a, b), normal(new(big.Int).Sub(value(a), value(b))))
		same(t, "Mul", integer.Mul(a, b), normal(new(big.Int).Mul(value(a), value(b))))
	})
}

// P2.4
func TestDivMod(t *testing.T) {
	for _, x := range []struct{ a, b, q, r int }{
		{7, 2, 3, 1}, {-7, 2, -4, 1}, {7, -2, -3, 1}, {-7, -2, 4, 1}, {8, 2, 4, 0}, {-8, 2, -4, 0}, {8, -2, -4, 0}, {-8, -2, 4, 0},
		{0, 5, 0, 0}, {0, -5, 0, 0}, {1, 5, 0, 1}, {-1, 5, -1, 4}, {1, -5, 0, 1}, {-1, -5, 1, 4}, {math.MinInt, 1, math.MinInt, 0},
	} {
		q, r, ok := integer.DivMod(integer.Of(x.a), integer.Of(x.b))
		if !ok {
			t.Errorf("DivMod(%d, %d) is false", x.a, x.b)
		}
		same(t, "quotient", q, integer.Of(x.q))
		same(t, "remainder", r, integer.Of(x.r))
	}
	pairs(func(a, b api.Int) {
		if value(b).Sign() == 0 {
			return
		}
		q, r, ok := integer.DivMod(a, b)
		quotient, rest := new(big.Int).DivMod(value(a), value(b), new(big.Int))
		if !ok {
			t.Errorf("DivMod(%v, %v) is false", a, b)
		}
		same(t, "quotient", q, normal(quotient))
		same(t, "remainder", r, normal(rest))
	})
}

// P2.4
func TestDivModByZero(t *testing.T) {
	for _, a := range samples() {
		for _, zero := range []api.Nat{nil, {}, {0}, {0, 0, 0}} {
			for _, b := range []api.Int{{Mag: zero}, {Neg: true, Mag: zero}} {
				q, r, ok := integer.DivMod(a, b)
				same(t, "quotient", q, api.Int{})
				same(t, "remainder", r, api.Int{})
				if ok {
					t.Errorf("DivMod(%v, %v) is true", a, b)
				}
			}
		}
	}
}

// P2.5
func TestSmall(t *testing.T) {
	for _, n := range ints() {
		if m, ok := integer.Small(integer.Of(n)); m != n || !ok {
			t.Errorf("Small(%d): %d, %v", n, m, ok)
		}
	}
	for _, a := range samples() {
		n, ok := integer.Small(a)
		if v := value(a); ok != v.IsInt64() || ok && int64(n) != v.Int64() || !ok && n != 0 {
			t.Errorf("Small(%v): %d, %v", a, n, ok)
		}
	}
}

// P2.5: the integers next to the least and the greatest int, in any form.
func TestSmallAtTheEnds(t *testing.T) {
	for _, x := range []struct {
		a    api.Int
		want int
		ok   bool
	}{
		{api.Int{Mag: api.Nat{full, 0x7fffffff}}, math.MaxInt, true}, {api.Int{Mag: api.Nat{0, 0x80000000}}, 0, false},
		{api.Int{Neg: true, Mag: api.Nat{0, 0x80000000}}, math.MinInt, true}, {api.Int{Neg: true, Mag: api.Nat{1, 0x80000000}}, 0, false},
		{api.Int{Neg: true, Mag: api.Nat{0, 0x80000000, 0}}, math.MinInt, true}, {api.Int{Neg: true, Mag: api.Nat{0, 0, 0}}, 0, true},
		{api.Int{Mag: api.Nat{0, 0, 1}}, 0, false}, {api.Int{Neg: true, Mag: api.Nat{0, 0, 1}}, 0, false}, {api.Int{Mag: api.Nat{full, full}}, 0, false},
	} {
		if n, ok := integer.Small(x.a); n != x.want || ok != x.ok {
			t.Errorf("Small(%v): %d, %v", x.a, n, ok)
		}
	}
}
