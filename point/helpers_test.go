package point_test

import (
	"math/big"
	"math/rand/v2"
	"slices"
	"testing"

	"garment/api"
	"garment/point"
)

// full is the greatest limb: all of its bits are set.
const full = 4294967295

// vec is a point whose coordinates are numbers of the standard library, which serves as the oracle.
type vec struct{ x, y *big.Rat }

// whole returns the number with these limbs.
func whole(a api.Nat) *big.Int {
	v := new(big.Int)
	for _, limb := range slices.Backward(a) {
		v.Or(v.Lsh(v, 32), big.NewInt(int64(limb)))
	}
	return v
}

// rat returns the value of a as the chapter of ratios defines it: 0 if the denominator is 0.
func rat(a api.Ratio) *big.Rat {
	num, den := whole(a.Num.Mag), whole(a.Den)
	if den.Sign() == 0 {
		return new(big.Rat)
	}
	if a.Num.Neg {
		num.Neg(num)
	}
	return new(big.Rat).SetFrac(num, den)
}

func value(p api.Pt) vec {
	return vec{rat(p.X), rat(p.Y)}
}

// limbs returns the magnitude of v without high zeros.
func limbs(v *big.Int) api.Nat {
	var a api.Nat
	for rest := new(big.Int).Abs(v); rest.Sign() > 0; rest.Rsh(rest, 32) {
		a = append(a, uint32(new(big.Int).And(rest, big.NewInt(full)).Uint64()))
	}
	return a
}

// normal returns v in normal form.
func normal(v *big.Rat) api.Ratio {
	return api.Ratio{Num: api.Int{Neg: v.Sign() < 0, Mag: limbs(v.Num())}, Den: limbs(v.Denom())}
}

func normalPt(v vec) api.Pt {
	return api.Pt{X: normal(v.x), Y: normal(v.y)}
}

// fraction returns the number with this text, such as -3/2.
func fraction(text string) api.Ratio {
	v, _ := new(big.Rat).SetString(text)
	return normal(v)
}

// at returns the point whose coordinates have these texts.
func at(x, y string) api.Pt {
	return api.Pt{X: fraction(x), Y: fraction(y)}
}

// sameRatio fails the test unless got has exactly the form of want; empty numbers may be nil or not.
func sameRatio(t *testing.T, call string, got, want api.Ratio) {
	t.Helper()
	if got.Num.Neg != want.Num.Neg || !slices.Equal(got.Num.Mag, want.Num.Mag) || !slices.Equal(got.Den, want.Den) {
		t.Errorf("%s: %v, not %v", call, got, want)
	}
}

// same fails the test unless the coordinates of got have exactly the form of those of want.
func same(t *testing.T, call string, got, want api.Pt) {
	t.Helper()
	sameRatio(t, call+", x", got.X, want.X)
	sameRatio(t, call+", y", got.Y, want.Y)
}

// gives fails the test unless the result is want without an error.
func gives(t *testing.T, call string, got api.Pt, e api.Errno, want api.Pt) {
	t.Helper()
	if e != api.OK {
		t.Errorf("%s: error %d", call, e)
	}
	same(t, call, got, want)
}

// isErrZero fails the test unless the result is ErrZero with the zero point, which has no limbs at all.
func isErrZero(t *testing.T, call string, got api.Pt, e api.Errno) {
	t.Helper()
	if e != api.ErrZero {
		t.Errorf("%s: error %d", call, e)
	}
	same(t, call, got, api.Pt{})
}

// dressed returns the number v in one of its other forms: not in lowest terms, with high zeros, 0 as -0 or over 0.
func dressed(draw *rand.Rand, v *big.Rat) api.Ratio {
	factor := big.NewInt(1 + draw.Int64N(40))
	if draw.IntN(4) == 0 {
		factor.Lsh(factor, 40)
	}
	num, den := limbs(new(big.Int).Mul(v.Num(), factor)), limbs(new(big.Int).Mul(v.Denom(), factor))
	negative := v.Sign() < 0
	if v.Sign() == 0 {
		negative = draw.IntN(2) == 0
		switch draw.IntN(3) {
		case 0:
			den = nil
		case 1:
			num, den = api.Nat{5}, api.Nat{0}
		}
	}
	return api.Ratio{Num: api.Int{Neg: negative, Mag: widened(draw, num)}, Den: widened(draw, den)}
}

// widened returns a with up to two high zeros.
func widened(draw *rand.Rand, a api.Nat) api.Nat {
	return slices.Concat(a, make(api.Nat, draw.IntN(3)))
}

// form returns the same point as p, in other forms of its coordinates.
func form(draw *rand.Rand, p api.Pt) api.Pt {
	return api.Pt{X: dressed(draw, rat(p.X)), Y: dressed(draw, rat(p.Y))}
}

// long returns a number whose numerator and denominator have up to three limbs, many of them extreme.
func long(draw *rand.Rand) *big.Rat {
	extreme := []int64{0, 1, full, full - 1, 1 << 31}
	num, den := new(big.Int), new(big.Int)
	for _, part := range []*big.Int{num, den} {
		for range draw.IntN(4) {
			limb := int64(draw.Uint32())
			if draw.IntN(2) == 0 {
				limb = extreme[draw.IntN(len(extreme))]
			}
			part.Or(part.Lsh(part, 32), big.NewInt(limb))
		}
	}
	if draw.IntN(2) == 0 {
		num.Neg(num)
	}
	return new(big.Rat).SetFrac(num, den.Add(den, big.NewInt(1)))
}

// short returns one of few numbers near 0, so that points are often the same, and lines often parallel.
func short(draw *rand.Rand) *big.Rat {
	return big.NewRat(draw.Int64N(5)-2, 1+draw.Int64N(2))
}

// drawn returns a point with short or with long coordinates, in any form.
func drawn(draw *rand.Rand) api.Pt {
	if draw.IntN(3) == 0 {
		return api.Pt{X: dressed(draw, long(draw)), Y: dressed(draw, long(draw))}
	}
	return api.Pt{X: dressed(draw, short(draw)), Y: dressed(draw, short(draw))}
}

// drawnRatio returns a short or a long number, in any form.
func drawnRatio(draw *rand.Rand) api.Ratio {
	return drawn(draw).X
}

// quads calls f with drawn points; each of the later ones is at times one of the former ones in another form, or lies on a line with them.
func quads(f func(a, b, c, d api.Pt)) {
	draw := rand.New(rand.NewPCG(8, 1))
	for range 1500 {
		p := []api.Pt{drawn(draw), drawn(draw)}
		for len(p) < 4 {
			next := drawn(draw)
			switch draw.IntN(4) {
			case 0:
				next = form(draw, p[draw.IntN(len(p))])
			case 1:
				next = form(draw, normalPt(onOracle(value(p[0]), value(p[1]), short(draw))))
			case 2:
				ab := subOracle(value(p[1]), value(p[0]))
				next = form(draw, normalPt(addOracle(value(p[len(p)-1]), ab)))
			}
			p = append(p, next)
		}
		f(p[0], p[1], p[2], p[3])
	}
}

// numbers lists the numbers of a point that hold memory.
func numbers(p api.Pt) []api.Nat {
	return []api.Nat{p.X.Num.Mag, p.X.Den, p.Y.Num.Mag, p.Y.Den}
}

// calls lists every function that takes points, with the numbers of its results.
func calls() map[string]func(a, b, c, d api.Pt) []api.Nat {
	return map[string]func(a, b, c, d api.Pt) []api.Nat{
		"Add":    func(a, b, _, _ api.Pt) []api.Nat { return numbers(point.Add(a, b)) },
		"Sub":    func(a, b, _, _ api.Pt) []api.Nat { return numbers(point.Sub(a, b)) },
		"Scale":  func(a, b, _, _ api.Pt) []api.Nat { return numbers(point.Scale(a, b.X)) },
		"Same":   func(a, b, _, _ api.Pt) []api.Nat { point.Same(a, b); return nil },
		"Dot":    func(a, b, _, _ api.Pt) []api.Nat { r := point.Dot(a, b); return []api.Nat{r.Num.Mag, r.Den} },
		"Cross":  func(a, b, _, _ api.Pt) []api.Nat { r := point.Cross(a, b); return []api.Nat{r.Num.Mag, r.Den} },
		"Side":   func(a, b, c, _ api.Pt) []api.Nat { point.Side(a, b, c); return nil },
		"On":     func(a, b, c, _ api.Pt) []api.Nat { return numbers(point.On(a, b, c.Y)) },
		"Meet":   func(a, b, c, d api.Pt) []api.Nat { p, _ := point.Meet(a, b, c, d); return numbers(p) },
		"Foot":   func(a, b, c, _ api.Pt) []api.Nat { p, _ := point.Foot(a, b, c); return numbers(p) },
		"Mirror": func(a, b, c, _ api.Pt) []api.Nat { p, _ := point.Mirror(a, b, c); return numbers(p) },
		"Grid":   func(a, _, _, _ api.Pt) []api.Nat { point.Grid(a); return nil },
	}
}
