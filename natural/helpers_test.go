package natural_test

import (
	"math/big"
	"math/rand/v2"
	"slices"
	"testing"

	"garment/api"
	"garment/natural"
)

// full is the greatest limb: all of its bits are set.
const full = 4294967295

// value returns a as a number of the standard library, which serves as the oracle.
func value(a api.Nat) *big.Int {
	v := new(big.Int)
	for _, limb := range slices.Backward(a) {
		v.Lsh(v, 32)
		v.Or(v, big.NewInt(int64(limb)))
	}
	return v
}

// limbs returns v in normal form.
func limbs(v *big.Int) api.Nat {
	var a api.Nat
	rest := new(big.Int).Set(v)
	for rest.Sign() > 0 {
		a = append(a, uint32(new(big.Int).And(rest, big.NewInt(full)).Uint64()))
		rest.Rsh(rest, 32)
	}
	return a
}

// same fails the test unless got has exactly the limbs want; an empty number may be nil or not.
func same(t *testing.T, call string, got, want api.Nat) {
	t.Helper()
	if !slices.Equal(got, want) {
		t.Errorf("%s: %v, not %v", call, got, want)
	}
}

// samples returns numbers of all forms: edge cases, and drawn ones with up to 12 limbs, many of them extreme, some with high zeros.
func samples() []api.Nat {
	list := []api.Nat{
		nil, {}, {0}, {0, 0, 0}, {1}, {1, 0}, {2}, {10}, {full}, {full, 0, 0}, {0, 1}, {1, 1}, {0, 0, 1}, {0, 1, 0},
		{full, full}, {full, full, full, full}, {0, 0, 0, 1}, {0, 0x80000000}, {full, 0x7fffffff}, {1000000000}, {999999999},
		{0xa7640000, 0xde0b6b3}, {0xa763ffff, 0xde0b6b3},
	}
	draw := rand.New(rand.NewPCG(1, 2))
	extreme := []uint32{0, 0, 1, 2, full, full, full - 1, 0x80000000, 0x7fffffff}
	for range 60 {
		a := make(api.Nat, draw.IntN(13))
		for i := range a {
			a[i] = draw.Uint32()
			if draw.IntN(2) == 0 {
				a[i] = extreme[draw.IntN(len(extreme))]
			}
		}
		list = append(list, a)
	}
	return list
}

// pairs calls f with all pairs of samples.
func pairs(f func(a, b api.Nat)) {
	list := samples()
	for _, a := range list {
		for _, b := range list {
			f(a, b)
		}
	}
}

// guarded returns a with spare capacity that is filled with a mark, and a function that reports whether any of it was changed.
func guarded(a api.Nat) (api.Nat, func() bool) {
	memory := slices.Concat(a, api.Nat{77, 77, 77, 77})
	before := slices.Clone(memory)
	return memory[:len(a)], func() bool { return !slices.Equal(memory, before) }
}

// scribble overwrites a and its spare capacity.
func scribble(a api.Nat) {
	a = a[:cap(a)]
	for i := range a {
		a[i] = 55
	}
}

// calls lists every function that takes numbers, with its numbers as results.
func calls() map[string]func(a, b api.Nat) []api.Nat {
	return map[string]func(a, b api.Nat) []api.Nat{
		"Norm": func(a, _ api.Nat) []api.Nat { return []api.Nat{natural.Norm(a)} },
		"Cmp":  func(a, b api.Nat) []api.Nat { natural.Cmp(a, b); return nil },
		"Add":  func(a, b api.Nat) []api.Nat { return []api.Nat{natural.Add(a, b)} },
		"Sub":  func(a, b api.Nat) []api.Nat { d, _ := natural.Sub(a, b); return []api.Nat{d} },
		"Mul":  func(a, b api.Nat) []api.Nat { return []api.Nat{natural.Mul(a, b)} },
		"DivMod": func(a, b api.Nat) []api.Nat {
			q, r, _ := natural.DivMod(a, b)
			return []api.Nat{q, r}
		},
		"Gcd":  func(a, b api.Nat) []api.Nat { return []api.Nat{natural.Gcd(a, b)} },
		"Sqrt": func(a, _ api.Nat) []api.Nat { return []api.Nat{natural.Sqrt(a)} },
		"Text": func(a, _ api.Nat) []api.Nat { natural.Text(a); return nil },
	}
}
