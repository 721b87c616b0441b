package point_test

import (
	"math"
	"math/big"
	"math/rand/v2"
	"slices"
	"testing"

	"garment/api"
	"garment/point"
)

// P8.1
func TestOf(t *testing.T) {
	list := []int{0, 1, -1, 2, -7, full, -full, full + 1, -full - 1, math.MaxInt, -math.MaxInt, math.MinInt}
	for _, x := range list {
		for _, y := range list {
			want := vec{big.NewRat(int64(x), 1), big.NewRat(int64(y), 1)}
			same(t, "Of", point.Of(x, y), normalPt(want))
		}
	}
	same(t, "Of", point.Of(math.MinInt, math.MaxInt), at("-9223372036854775808", "9223372036854775807"))
}

// P8.1: results that were worked out by hand, those of example 1 among them.
func TestVectors(t *testing.T) {
	for _, x := range []struct {
		a, b       api.Pt
		sum, less  api.Pt
		dot, cross string
	}{
		{point.Of(1, 2), point.Of(3, 4), point.Of(4, 6), point.Of(-2, -2), "11", "-2"},
		{point.Of(3, 4), point.Of(1, 2), point.Of(4, 6), point.Of(2, 2), "11", "2"},
		{point.Of(1, 0), point.Of(0, 1), point.Of(1, 1), point.Of(1, -1), "0", "1"},
		{at("1/2", "-3"), at("5/6", "2/3"), at("4/3", "-7/3"), at("-1/3", "-11/3"), "-19/12", "17/6"},
		{at("1/6", "-1/6"), at("1/3", "2/3"), at("1/2", "1/2"), at("-1/6", "-5/6"), "-1/18", "1/6"},
		{at("1/2", "7"), at("-1/2", "-7"), point.Of(0, 0), point.Of(1, 14), "-197/4", "0"},
		{point.Of(0, 0), point.Of(0, 0), point.Of(0, 0), point.Of(0, 0), "0", "0"},
	} {
		same(t, "Add", point.Add(x.a, x.b), x.sum)
		same(t, "Sub", point.Sub(x.a, x.b), x.less)
		sameRatio(t, "Dot", point.Dot(x.a, x.b), fraction(x.dot))
		sameRatio(t, "Cross", point.Cross(x.a, x.b), fraction(x.cross))
	}
}

// P8.1: results that were worked out by hand.
func TestScale(t *testing.T) {
	for _, x := range []struct {
		a, want api.Pt
		r       string
	}{
		{at("1/2", "-3"), at("1/4", "-3/2"), "1/2"}, {at("1/2", "-3"), at("-1/2", "3"), "-1"}, {at("4/9", "-6"), at("2/3", "-9"), "3/2"},
		{at("1/2", "-3"), point.Of(0, 0), "0"}, {at("1/2", "-3"), at("1/2", "-3"), "1"}, {point.Of(0, 0), point.Of(0, 0), "-7/3"}, {point.Of(0, 5), point.Of(0, -10), "-2"},
	} {
		same(t, "Scale", point.Scale(x.a, fraction(x.r)), x.want)
	}
}

// P8.1: the results for points in any form are those of the standard library, in normal form.
func TestVectorsInAnyForm(t *testing.T) {
	quads(func(a, b, c, _ api.Pt) {
		u, v := value(a), value(b)
		same(t, "Add", point.Add(a, b), normalPt(addOracle(u, v)))
		same(t, "Sub", point.Sub(a, b), normalPt(subOracle(u, v)))
		same(t, "Scale", point.Scale(a, c.Y), normalPt(scaleOracle(u, rat(c.Y))))
		sameRatio(t, "Dot", point.Dot(a, b), normal(dotOracle(u, v)))
		sameRatio(t, "Cross", point.Cross(a, b), normal(crossOracle(u, v)))
	})
}

// P8.1: points are the same exactly if the values of both coordinates are, whatever their forms.
func TestSame(t *testing.T) {
	quads(func(a, b, c, d api.Pt) {
		list := []api.Pt{a, b, c, d, {X: a.X, Y: b.Y}, {X: b.X, Y: a.Y}, {X: a.Y, Y: a.X}}
		for _, p := range list {
			for _, q := range list {
				if point.Same(p, q) != sameOracle(value(p), value(q)) {
					t.Errorf("Same(%v, %v): %t", p, q, point.Same(p, q))
				}
			}
		}
	})
}

// P8.1: forms of the same point that were written out.
func TestSameInOtherForms(t *testing.T) {
	halfAndZero := []api.Pt{
		at("1/2", "0"),
		{X: api.Ratio{Num: api.Int{Mag: api.Nat{2, 0}}, Den: api.Nat{4}}, Y: api.Ratio{Num: api.Int{Neg: true}}},
		{X: api.Ratio{Num: api.Int{Mag: api.Nat{0, 1, 0}}, Den: api.Nat{0, 2, 0, 0}}, Y: api.Ratio{Num: api.Int{Neg: true, Mag: api.Nat{0, 0}}, Den: api.Nat{3, 0}}},
		{X: api.Ratio{Num: api.Int{Mag: api.Nat{3}}, Den: api.Nat{6, 0}}, Y: api.Ratio{Num: api.Int{Mag: api.Nat{7}}, Den: api.Nat{0}}},
	}
	others := []api.Pt{at("-1/2", "0"), at("1/2", "1"), at("1/3", "0"), at("0", "1/2"), point.Of(0, 0), point.Of(1, 0), {}}
	for _, p := range halfAndZero {
		for _, q := range halfAndZero {
			if !point.Same(p, q) {
				t.Errorf("%v and %v are not the same", p, q)
			}
		}
		for _, q := range others {
			if point.Same(p, q) || point.Same(q, p) {
				t.Errorf("%v and %v are the same", p, q)
			}
		}
		same(t, "Add", point.Add(p, p), point.Of(1, 0))
		same(t, "Add of the zero Pt", point.Add(api.Pt{}, p), at("1/2", "0"))
		same(t, "Sub", point.Sub(p, p), point.Of(0, 0))
		sameRatio(t, "Dot", point.Dot(p, p), fraction("1/4"))
		sameRatio(t, "Cross", point.Cross(p, point.Of(0, 3)), fraction("3/2"))
	}
}

// R4: a result is in normal form if the coordinates are not; the numbers of the same point in other forms give the same results.
func TestResultsDependOnValues(t *testing.T) {
	draw := rand.New(rand.NewPCG(8, 2))
	quads(func(a, b, c, d api.Pt) {
		k, l, m, n := form(draw, a), form(draw, b), form(draw, c), form(draw, d)
		for name, call := range calls() {
			if got, want := call(k, l, m, n), call(a, b, c, d); !slices.EqualFunc(got, want, slices.Equal) {
				t.Errorf("%s: %v, not %v", name, got, want)
			}
		}
	})
}
