package natural_test

import (
	"math"
	"math/big"
	"slices"
	"testing"

	"garment/api"
	"garment/natural"
)

// P1.1
func TestOf(t *testing.T) {
	for _, x := range []struct {
		n    uint64
		want api.Nat
	}{
		{0, nil}, {1, api.Nat{1}}, {full, api.Nat{full}}, {full + 1, api.Nat{0, 1}},
		{full + 6, api.Nat{5, 1}}, {math.MaxUint64, api.Nat{full, full}},
	} {
		same(t, "Of", natural.Of(x.n), x.want)
	}
}

// P1.1
func TestNorm(t *testing.T) {
	for _, x := range []struct{ a, want api.Nat }{
		{nil, nil}, {api.Nat{0}, nil}, {api.Nat{0, 0, 0}, nil}, {api.Nat{5, 0}, api.Nat{5}},
		{api.Nat{0, 5}, api.Nat{0, 5}}, {api.Nat{0, 5, 0, 0}, api.Nat{0, 5}}, {api.Nat{1, 2, 3}, api.Nat{1, 2, 3}},
	} {
		same(t, "Norm", natural.Norm(x.a), x.want)
	}
}

// P1.2
func TestCmp(t *testing.T) {
	for _, x := range []struct {
		a, b api.Nat
		want int
	}{
		{nil, nil, 0}, {nil, api.Nat{0, 0}, 0}, {nil, api.Nat{1}, -1}, {api.Nat{2}, api.Nat{1, 1}, -1},
		{api.Nat{1, 1}, api.Nat{2}, 1}, {api.Nat{9, 0, 0}, api.Nat{9}, 0}, {api.Nat{9, 0, 0}, api.Nat{1, 1}, -1},
		{api.Nat{full, 1}, api.Nat{0, 2}, -1}, {api.Nat{3, 7}, api.Nat{2, 7, 0}, 1},
	} {
		if c := natural.Cmp(x.a, x.b); c != x.want {
			t.Errorf("Cmp(%v, %v): %d, not %d", x.a, x.b, c, x.want)
		}
	}
	pairs(func(a, b api.Nat) {
		if c := natural.Cmp(a, b); c != value(a).Cmp(value(b)) {
			t.Errorf("Cmp(%v, %v): %d", a, b, c)
		}
	})
}

// P1.3
func TestAdd(t *testing.T) {
	for _, x := range []struct{ a, b, want api.Nat }{
		{nil, nil, nil}, {api.Nat{0}, api.Nat{0, 0}, nil}, {api.Nat{7, 0}, nil, api.Nat{7}},
		{api.Nat{full}, api.Nat{1}, api.Nat{0, 1}}, {api.Nat{1}, api.Nat{full, full}, api.Nat{0, 0, 1}},
		{api.Nat{full, full, 5}, api.Nat{1}, api.Nat{0, 0, 6}},
		{api.Nat{full, full}, api.Nat{full, full}, api.Nat{full - 1, full, 1}},
	} {
		same(t, "Add", natural.Add(x.a, x.b), x.want)
	}
	pairs(func(a, b api.Nat) {
		same(t, "Add", natural.Add(a, b), limbs(new(big.Int).Add(value(a), value(b))))
	})
}

// P1.3
func TestSub(t *testing.T) {
	for _, x := range []struct {
		a, b, want api.Nat
		ok         bool
	}{
		{nil, nil, nil, true}, {api.Nat{3}, api.Nat{5}, nil, false}, {api.Nat{5}, api.Nat{3, 0}, api.Nat{2}, true},
		{api.Nat{5, 0}, api.Nat{5}, nil, true}, {nil, api.Nat{1}, nil, false}, {api.Nat{0}, api.Nat{0, 0}, nil, true},
		{api.Nat{9, 0}, api.Nat{1, 1}, nil, false}, {api.Nat{0, 0, 0, 1}, api.Nat{1}, api.Nat{full, full, full}, true},
		{api.Nat{0, 0, 1}, api.Nat{full, full}, api.Nat{1}, true},
		{api.Nat{4, 8, 7}, api.Nat{5, 8, 6}, api.Nat{full, full}, true},
		{api.Nat{4, 8, 7}, api.Nat{5, 8, 7}, nil, false},
	} {
		d, ok := natural.Sub(x.a, x.b)
		same(t, "Sub", d, x.want)
		if ok != x.ok {
			t.Errorf("Sub(%v, %v): %v", x.a, x.b, ok)
		}
	}
	pairs(func(a, b api.Nat) {
		difference := new(big.Int).Sub(value(a), value(b))
		d, ok := natural.Sub(a, b)
		if ok != (difference.Sign() >= 0) {
			t.Errorf("Sub(%v, %v): %v", a, b, ok)
		}
		// limbs is empty for numbers below 0.
		same(t, "Sub", d, limbs(difference))
	})
}

// P1.4
func TestMul(t *testing.T) {
	for _, x := range []struct{ a, b, want api.Nat }{
		{nil, api.Nat{5, 6}, nil}, {api.Nat{0, 0}, api.Nat{5}, nil}, {api.Nat{1, 0}, api.Nat{5, 6, 0}, api.Nat{5, 6}},
		{api.Nat{full}, api.Nat{full}, api.Nat{1, full - 1}},
		{api.Nat{full, full}, api.Nat{full, full}, api.Nat{1, 0, full - 1, full}},
		{api.Nat{0, 1}, api.Nat{0, 0, 1}, api.Nat{0, 0, 0, 1}},
	} {
		same(t, "Mul", natural.Mul(x.a, x.b), x.want)
	}
	pairs(func(a, b api.Nat) {
		same(t, "Mul", natural.Mul(a, b), limbs(new(big.Int).Mul(value(a), value(b))))
	})
}

// Rule R3: arguments are not modified, and no result shares memory with an argument or with another result.
func TestMemory(t *testing.T) {
	for name, call := range calls() {
		pairs(func(a, b api.Nat) {
			a, changedA := guarded(a)
			b, changedB := guarded(b)
			results := call(a, b)
			if changedA() || changedB() {
				t.Fatalf("%s(%v, %v) modifies an argument", name, a, b)
			}
			wants := call(a, b)
			for i, result := range results {
				same(t, name, result, wants[i])
				scribble(result)
			}
			if changedA() || changedB() {
				t.Fatalf("%s(%v, %v) returns memory of an argument", name, a, b)
			}
		})
	}
}

// Rule R3: overwriting the results of one call does not change those of the next one.
func TestResultsAreNew(t *testing.T) {
	a, b := api.Nat{7, 8, 9}, api.Nat{0, 1}
	for name, call := range calls() {
		var wants []api.Nat
		for _, result := range call(a, b) {
			wants = append(wants, slices.Clone(result))
			scribble(result)
		}
		for i, result := range call(a, b) {
			same(t, name, result, wants[i])
		}
	}
	scribble(natural.Of(0))
	same(t, "Of", natural.Of(0), nil)
	scribble(natural.Norm(nil))
	same(t, "Norm", natural.Norm(nil), nil)
}
