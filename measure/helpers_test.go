package measure_test

import (
	"math/big"
	"math/rand/v2"
	"slices"
	"testing"

	"garment/api"
	"garment/measure"
	"garment/natural"
	"garment/ratio"
)

// full is the greatest limb: all of its bits are set.
const full = 4294967295

// number returns what s denotes, such as "-3/2" or "0.25", as a number of the standard library, which serves as the oracle.
func number(s string) *big.Rat {
	v, ok := new(big.Rat).SetString(s)
	if !ok {
		panic("no number: " + s)
	}
	return v
}

// value returns a as a number of the standard library.
func value(a api.Ratio) *big.Rat {
	return number(ratio.Text(a))
}

// normal returns v in normal form.
func normal(v *big.Rat) api.Ratio {
	a, e := ratio.Parse(v.RatString())
	if e != api.OK {
		panic("too long: " + v.RatString())
	}
	return a
}

// length returns the length that s denotes, such as "-3/2", in normal form.
func length(s string) api.Ratio {
	return normal(number(s))
}

// same fails the test unless got has exactly the form of want; empty numbers may be nil or not.
func same(t *testing.T, call string, got, want api.Ratio) {
	t.Helper()
	if got.Num.Neg != want.Num.Neg || !slices.Equal(got.Num.Mag, want.Num.Mag) || !slices.Equal(got.Den, want.Den) {
		t.Errorf("%s: %v, not %v", call, got, want)
	}
}

// parsed returns what s denotes, and fails the test if it is no measure.
func parsed(t *testing.T, s string) api.Ratio {
	t.Helper()
	a, e := measure.Parse(s)
	if e != api.OK {
		t.Errorf("Parse(%q): %d", s, e)
	}
	return a
}

// fails fails the test unless Parse of s returns this error and the zero Ratio.
func fails(t *testing.T, s string, want api.Errno) {
	t.Helper()
	a, e := measure.Parse(s)
	same(t, "Parse", a, api.Ratio{})
	if e != want {
		t.Errorf("Parse(%q): %d, not %d", s, e, want)
	}
}

// zeros returns 0 in many forms.
func zeros() []api.Ratio {
	var list []api.Ratio
	for _, negative := range []bool{false, true} {
		for _, zero := range []api.Nat{nil, {}, {0}, {0, 0, 0}} {
			for _, den := range []api.Nat{nil, {}, {0}, {0, 0}, {1}, {7, 0}, {0, 1}} {
				list = append(list, api.Ratio{Num: api.Int{Neg: negative, Mag: zero}, Den: den})
			}
			for _, num := range []api.Nat{{1}, {5, 0}, {full, full, full}} {
				list = append(list, api.Ratio{Num: api.Int{Neg: negative, Mag: num}, Den: zero})
			}
		}
	}
	return list
}

// forms returns a in other forms: not in lowest terms, and with high zeros.
func forms(a api.Ratio) []api.Ratio {
	var list []api.Ratio
	for _, factor := range []api.Nat{{1}, {2}, {100}, {999}, {0, 1}, {full, full}} {
		num, den := natural.Mul(a.Num.Mag, factor), natural.Mul(a.Den, factor)
		list = append(list,
			api.Ratio{Num: api.Int{Neg: a.Num.Neg, Mag: num}, Den: den},
			api.Ratio{Num: api.Int{Neg: a.Num.Neg, Mag: slices.Concat(num, api.Nat{0})}, Den: slices.Concat(den, api.Nat{0, 0})})
	}
	if ratio.Cmp(a, api.Ratio{}) == 0 {
		list = append(list, zeros()...)
	}
	return list
}

// lengths returns lengths of every kind: with few and with many digits behind the point, with small and with great denominators, near the limits and far beyond them, with both signs.
func lengths() []api.Ratio {
	var list []api.Ratio
	add := func(v *big.Rat) {
		list = append(list, normal(v), normal(new(big.Rat).Neg(v)))
	}
	for _, s := range []string{
		"0", "1/2", "1/3", "1", "3/2", "5/2", "7/3", "100", "1048575", "2097151/2", "1048576", "2097153/2", "1048577", "999999999", "9999999999/10",
		"99999999999/100", "999999999999/1000", "2999999999/3", "1000000000", "3000000001/3", "4294967295", "4294967296", "9223372036854775807", "9223372036854775808",
		"18446744073709551616", "922337203685477580700", "922337203685477580800", "1/18446744073709551616", "340282366920938463463374607431768211457/340282366920938463463374607431768211456",
	} {
		add(number(s))
	}
	draw := rand.New(rand.NewPCG(4, 5))
	for _, den := range []int64{1, 2, 3, 7, 8, 9, 10, 16, 25, 32, 99, 100, 128, 256, 625, 997, 998, 999, 1000, 1001, 1024, 1250, 2500, 3333, 5000, 9999, 10000, 10001, 20000, 62500, 100000, 999900, 1 << 40} {
		for range 12 {
			limit := []int64{3 * den, 5000 * den, 1048580 * den, 1000000100 * den}[draw.IntN(4)]
			add(new(big.Rat).SetFrac64(draw.Int64N(max(limit, 1)), den))
			// Here the denominator is that of the length in millimetres.
			add(new(big.Rat).SetFrac64(100*draw.Int64N(max(limit, 1)/100+1), den))
		}
	}
	return list
}

// guarded returns a with spare capacity that is filled with a mark, and a function that reports whether any of it was changed.
func guarded(a api.Ratio) (api.Ratio, func() bool) {
	num, den := slices.Concat(a.Num.Mag, api.Nat{77, 77, 77}), slices.Concat(a.Den, api.Nat{77, 77, 77})
	numBefore, denBefore := slices.Clone(num), slices.Clone(den)
	changed := func() bool { return !slices.Equal(num, numBefore) || !slices.Equal(den, denBefore) }
	return api.Ratio{Num: api.Int{Neg: a.Num.Neg, Mag: num[:len(a.Num.Mag)]}, Den: den[:len(a.Den)]}, changed
}
