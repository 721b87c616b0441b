package integer_test

import (
	"math"
	"math/big"
	"math/rand/v2"
	"slices"
	"testing"

	"garment/api"
	"garment/integer"
)

// full is the greatest limb: all of its bits are set.
const full = 4294967295

// value returns a as a number of the standard library, which serves as the oracle.
func value(a api.Int) *big.Int {
	v := new(big.Int)
	for _, limb := range slices.Backward(a.Mag) {
		v.Lsh(v, 32)
		v.Or(v, big.NewInt(int64(limb)))
	}
	if a.Neg {
		v.Neg(v)
	}
	return v
}

// normal returns v in normal form.
func normal(v *big.Int) api.Int {
	a := api.Int{Neg: v.Sign() < 0}
	rest := new(big.Int).Abs(v)
	for rest.Sign() > 0 {
		a.Mag = append(a.Mag, uint32(new(big.Int).And(rest, big.NewInt(full)).Uint64()))
		rest.Rsh(rest, 32)
	}
	return a
}

// same fails the test unless got has exactly the form of want; an empty magnitude may be nil or not.
func same(t *testing.T, call string, got, want api.Int) {
	t.Helper()
	if got.Neg != want.Neg || !slices.Equal(got.Mag, want.Mag) {
		t.Errorf("%s: %v, not %v", call, got, want)
	}
}

// edges returns zeros, numbers around the ends of limbs and ints, and magnitudes with high zero limbs, with both signs.
func edges() []api.Int {
	var list []api.Int
	for _, magnitude := range []api.Nat{
		nil, {}, {0}, {0, 0, 0}, {1}, {1, 0}, {1, 0, 0, 0}, {2}, {2, 0}, {3}, {7}, {10}, {full}, {full, 0, 0}, {0, 1}, {1, 1}, {0, 1, 0},
		{full, 0x7fffffff}, {full, 0x7fffffff, 0}, {0, 0x80000000}, {0, 0x80000000, 0, 0}, {1, 0x80000000},
		{full - 1, full}, {full, full}, {0, 0, 1}, {0, 0, 1, 0}, {1, 0, 1}, {0, 0, 0, 1}, {full, full, full},
	} {
		list = append(list, api.Int{Mag: magnitude}, api.Int{Neg: true, Mag: magnitude})
	}
	return list
}

// samples returns the edges and drawn numbers with up to 8 limbs, many of them extreme, some with high zeros.
func samples() []api.Int {
	list := edges()
	draw := rand.New(rand.NewPCG(3, 4))
	extreme := []uint32{0, 0, 1, 2, full, full - 1, 0x80000000, 0x7fffffff}
	for range 50 {
		a := api.Int{Neg: draw.IntN(2) == 0, Mag: make(api.Nat, draw.IntN(9))}
		for i := range a.Mag {
			a.Mag[i] = draw.Uint32()
			if draw.IntN(2) == 0 {
				a.Mag[i] = extreme[draw.IntN(len(extreme))]
			}
		}
		list = append(list, a)
	}
	return list
}

// pairs calls f with all pairs of samples.
func pairs(f func(a, b api.Int)) {
	list := samples()
	for _, a := range list {
		for _, b := range list {
			f(a, b)
		}
	}
}

// ints returns small ints, the powers of 2 with their neighbours, and drawn ints.
func ints() []int {
	list := []int{math.MinInt, math.MinInt + 1, math.MaxInt - 1, math.MaxInt}
	for n := range 12 {
		list = append(list, n, -n)
	}
	for i := range 63 {
		list = append(list, 1<<i-1, 1<<i, 1<<i+1, -1<<i-1, -1<<i, -1<<i+1)
	}
	draw := rand.New(rand.NewPCG(5, 6))
	for range 100 {
		list = append(list, int(draw.Uint64()))
	}
	return list
}

// calls lists every function that takes integers, with its integers as results.
func calls() map[string]func(a, b api.Int) []api.Int {
	return map[string]func(a, b api.Int) []api.Int{
		"Norm": func(a, _ api.Int) []api.Int { return []api.Int{integer.Norm(a)} },
		"Cmp":  func(a, b api.Int) []api.Int { integer.Cmp(a, b); return nil },
		"Neg":  func(a, _ api.Int) []api.Int { return []api.Int{integer.Neg(a)} },
		"Add":  func(a, b api.Int) []api.Int { return []api.Int{integer.Add(a, b)} },
		"Sub":  func(a, b api.Int) []api.Int { return []api.Int{integer.Sub(a, b)} },
		"Mul":  func(a, b api.Int) []api.Int { return []api.Int{integer.Mul(a, b)} },
		"DivMod": func(a, b api.Int) []api.Int {
			q, r, _ := integer.DivMod(a, b)
			return []api.Int{q, r}
		},
		"Small": func(a, _ api.Int) []api.Int { integer.Small(a); return nil },
		"Text":  func(a, _ api.Int) []api.Int { integer.Text(a); return nil },
	}
}

// guarded returns a with spare capacity that is filled with a mark, and a function that reports whether any of it was changed.
func guarded(a api.Int) (api.Int, func() bool) {
	memory := slices.Concat(a.Mag, api.Nat{77, 77, 77, 77})
	before := slices.Clone(memory)
	return api.Int{Neg: a.Neg, Mag: memory[:len(a.Mag)]}, func() bool { return !slices.Equal(memory, before) }
}

// scribble overwrites the magnitude of a and its spare capacity.
func scribble(a api.Int) {
	memory := a.Mag[:cap(a.Mag)]
	for i := range memory {
		memory[i] = 55
	}
}
