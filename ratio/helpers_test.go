package ratio_test

import (
	"math/big"
	"math/rand/v2"
	"slices"
	"testing"

	"garment/api"
	"garment/ratio"
)

// full is the greatest limb: all of its bits are set.
const full = 4294967295

// whole returns a as a number of the standard library, which serves as the oracle.
func whole(a api.Int) *big.Int {
	v := new(big.Int)
	for _, limb := range slices.Backward(a.Mag) {
		v.Lsh(v, 32)
		v.Or(v, big.NewInt(int64(limb)))
	}
	if a.Neg {
		v.Neg(v)
	}
	return v
}

// value returns the value of a as the chapter defines it: 0 if the denominator is 0.
func value(a api.Ratio) *big.Rat {
	den := whole(api.Int{Mag: a.Den})
	if den.Sign() == 0 {
		return new(big.Rat)
	}
	return new(big.Rat).SetFrac(whole(a.Num), den)
}

// normalInt returns v in normal form.
func normalInt(v *big.Int) api.Int {
	a := api.Int{Neg: v.Sign() < 0}
	rest := new(big.Int).Abs(v)
	for rest.Sign() > 0 {
		a.Mag = append(a.Mag, uint32(new(big.Int).And(rest, big.NewInt(full)).Uint64()))
		rest.Rsh(rest, 32)
	}
	return a
}

// normal returns v in normal form.
func normal(v *big.Rat) api.Ratio {
	return api.Ratio{Num: normalInt(v.Num()), Den: normalInt(v.Denom()).Mag}
}

// sameInt fails the test unless got has exactly the form of want; an empty magnitude may be nil or not.
func sameInt(t *testing.T, call string, got, want api.Int) {
	t.Helper()
	if got.Neg != want.Neg || !slices.Equal(got.Mag, want.Mag) {
		t.Errorf("%s: %v, not %v", call, got, want)
	}
}

// same fails the test unless got has exactly the form of want; empty numbers may be nil or not.
func same(t *testing.T, call string, got, want api.Ratio) {
	t.Helper()
	if got.Num.Neg != want.Num.Neg || !slices.Equal(got.Num.Mag, want.Num.Mag) || !slices.Equal(got.Den, want.Den) {
		t.Errorf("%s: %v, not %v", call, got, want)
	}
}

// fraction returns num / den in the form in which it is written here; den is not negative.
func fraction(num, den int64) api.Ratio {
	return api.Ratio{Num: normalInt(big.NewInt(num)), Den: normalInt(big.NewInt(den)).Mag}
}

// zeros returns 0 in many forms.
func zeros() []api.Ratio {
	var list []api.Ratio
	for _, den := range []api.Nat{nil, {}, {0}, {0, 0, 0}, {1}, {7, 0}, {0, 1}} {
		for _, zero := range []api.Nat{nil, {}, {0}, {0, 0, 0}} {
			list = append(list, api.Ratio{Num: api.Int{Mag: zero}, Den: den}, api.Ratio{Num: api.Int{Neg: true, Mag: zero}, Den: den})
		}
	}
	for _, den := range []api.Nat{nil, {}, {0}, {0, 0, 0}} {
		for _, num := range []api.Nat{{1}, {5}, {6, 0}, {0, 1}, {full, full, full}} {
			list = append(list, api.Ratio{Num: api.Int{Mag: num}, Den: den}, api.Ratio{Num: api.Int{Neg: true, Mag: num}, Den: den})
		}
	}
	return list
}

// edges returns numbers around 0, around halves and at the ends of limbs and ints, with both signs, many of them in another than the normal form.
func edges() []api.Ratio {
	var list []api.Ratio
	for _, x := range []struct{ num, den api.Nat }{
		{nil, nil}, {api.Nat{0, 0}, api.Nat{4, 0}}, {api.Nat{5}, nil}, {api.Nat{5}, api.Nat{0, 0}}, {nil, api.Nat{1}},
		{api.Nat{1}, api.Nat{1}}, {api.Nat{2}, api.Nat{1}}, {api.Nat{7, 0}, api.Nat{7}}, {api.Nat{8}, api.Nat{4}},
		{api.Nat{1}, api.Nat{2}}, {api.Nat{3, 0, 0}, api.Nat{6, 0}}, {api.Nat{3}, api.Nat{2}}, {api.Nat{6}, api.Nat{4}}, {api.Nat{7}, api.Nat{2}},
		{api.Nat{1}, api.Nat{3}}, {api.Nat{2}, api.Nat{3}}, {api.Nat{4, 0}, api.Nat{6, 0, 0}}, {api.Nat{10}, api.Nat{3}}, {api.Nat{8}, api.Nat{3}},
		{api.Nat{9}, api.Nat{4}}, {api.Nat{1}, api.Nat{6}}, {api.Nat{5}, api.Nat{6}}, {api.Nat{full}, api.Nat{2}}, {api.Nat{full}, api.Nat{0, 1}},
		{api.Nat{0, 1}, api.Nat{full}}, {api.Nat{0, 1}, api.Nat{2}}, {api.Nat{1, 1}, api.Nat{2}}, {api.Nat{0, 1, 0}, api.Nat{0, 0, 1, 0}},
		{api.Nat{0, 0x80000000}, api.Nat{1}}, {api.Nat{full, 0x7fffffff}, api.Nat{0, 0x80000000}}, {api.Nat{full, full}, api.Nat{full}},
		{api.Nat{full, full, full}, api.Nat{0, 0, 0, 1}}, {api.Nat{1}, api.Nat{full, full, full, full, full}},
	} {
		list = append(list, api.Ratio{Num: api.Int{Mag: x.num}, Den: x.den}, api.Ratio{Num: api.Int{Neg: true, Mag: x.num}, Den: x.den})
	}
	return list
}

// samples returns the edges and drawn numbers, half of which have a common divisor, and some high zeros.
func samples() []api.Ratio {
	list := edges()
	draw := rand.New(rand.NewPCG(7, 8))
	for range 60 {
		a := api.Ratio{Num: api.Int{Neg: draw.IntN(2) == 0, Mag: drawn(draw)}, Den: drawn(draw)}
		if draw.IntN(2) == 0 {
			a = scaled(a, drawn(draw))
		}
		list = append(list, a)
	}
	return list
}

// drawn returns a natural number with up to 5 limbs, many of them extreme.
func drawn(draw *rand.Rand) api.Nat {
	extreme := []uint32{0, 0, 1, 2, full, full - 1, 0x80000000, 0x7fffffff}
	a := make(api.Nat, draw.IntN(6))
	for i := range a {
		a[i] = draw.Uint32()
		if draw.IntN(2) == 0 {
			a[i] = extreme[draw.IntN(len(extreme))]
		}
	}
	return a
}

// scaled returns a with its numerator and its denominator multiplied by the same factor.
func scaled(a api.Ratio, factor api.Nat) api.Ratio {
	f := whole(api.Int{Mag: factor})
	num := normalInt(f.Mul(f, whole(api.Int{Mag: a.Num.Mag})))
	f = whole(api.Int{Mag: factor})
	den := normalInt(f.Mul(f, whole(api.Int{Mag: a.Den})))
	return api.Ratio{Num: api.Int{Neg: a.Num.Neg, Mag: num.Mag}, Den: den.Mag}
}

// forms returns a in other forms: not in lowest terms, and with high zeros.
func forms(a api.Ratio) []api.Ratio {
	list := []api.Ratio{a, scaled(a, api.Nat{2}), scaled(a, api.Nat{15}), scaled(a, api.Nat{0, 1}), scaled(a, api.Nat{full, full})}
	for _, b := range list {
		list = append(list, api.Ratio{Num: api.Int{Neg: b.Num.Neg, Mag: slices.Concat(b.Num.Mag, api.Nat{0})}, Den: slices.Concat(b.Den, api.Nat{0, 0})})
	}
	if value(a).Sign() == 0 {
		list = append(list, zeros()...)
	}
	return list
}

// pairs calls f with all pairs of samples.
func pairs(f func(a, b api.Ratio)) {
	list := samples()
	for _, a := range list {
		for _, b := range list {
			f(a, b)
		}
	}
}

// triples calls f with all triples of some samples, small and long ones.
func triples(f func(a, b, c api.Ratio)) {
	list := samples()
	few := slices.Concat(list[8:28], list[len(list)-8:])
	for _, a := range few {
		for _, b := range few {
			for _, c := range few {
				f(a, b, c)
			}
		}
	}
}

// calls lists every function that takes ratios, with the numbers of its results.
func calls() map[string]func(a, b api.Ratio) []api.Nat {
	return map[string]func(a, b api.Ratio) []api.Nat{
		"Norm":  func(a, _ api.Ratio) []api.Nat { return numbers(ratio.Norm(a)) },
		"Cmp":   func(a, b api.Ratio) []api.Nat { ratio.Cmp(a, b); return nil },
		"Neg":   func(a, _ api.Ratio) []api.Nat { return numbers(ratio.Neg(a)) },
		"Add":   func(a, b api.Ratio) []api.Nat { return numbers(ratio.Add(a, b)) },
		"Sub":   func(a, b api.Ratio) []api.Nat { return numbers(ratio.Sub(a, b)) },
		"Mul":   func(a, b api.Ratio) []api.Nat { return numbers(ratio.Mul(a, b)) },
		"Div":   func(a, b api.Ratio) []api.Nat { q, _ := ratio.Div(a, b); return numbers(q) },
		"Floor": func(a, _ api.Ratio) []api.Nat { return []api.Nat{ratio.Floor(a).Mag} },
		"Round": func(a, _ api.Ratio) []api.Nat { return []api.Nat{ratio.Round(a).Mag} },
		"Text":  func(a, _ api.Ratio) []api.Nat { ratio.Text(a); return nil },
	}
}

func numbers(a api.Ratio) []api.Nat {
	return []api.Nat{a.Num.Mag, a.Den}
}

// guarded returns a with spare capacity that is filled with a mark, and a function that reports whether any of it was changed.
func guarded(a api.Ratio) (api.Ratio, func() bool) {
	num := slices.Concat(a.Num.Mag, api.Nat{77, 77, 77, 77})
	den := slices.Concat(a.Den, api.Nat{77, 77, 77, 77})
	numBefore, denBefore := slices.Clone(num), slices.Clone(den)
	changed := func() bool { return !slices.Equal(num, numBefore) || !slices.Equal(den, denBefore) }
	return api.Ratio{Num: api.Int{Neg: a.Num.Neg, Mag: num[:len(a.Num.Mag)]}, Den: den[:len(a.Den)]}, changed
}

// scribble overwrites a and its spare capacity with a mark.
func scribble(a api.Nat, mark uint32) {
	a = a[:cap(a)]
	for i := range a {
		a[i] = mark
	}
}
