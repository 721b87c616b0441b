package point_test

import (
	"math/big"
	"testing"

	"garment/api"
	"garment/point"
)

// P8.4: halves and what lies beside them, example 4 among them.
func TestGrid(t *testing.T) {
	for _, x := range []struct {
		p    api.Pt
		want api.Spot
	}{
		{at("1/2", "-1/2"), api.Spot{X: 1, Y: -1}}, {at("5/3", "-7/3"), api.Spot{X: 2, Y: -2}}, {at("-5/3", "7/3"), api.Spot{X: -2, Y: 2}},
		{at("0", "0"), api.Spot{}}, {at("1/3", "-1/3"), api.Spot{}}, {at("3/2", "-3/2"), api.Spot{X: 2, Y: -2}}, {at("5/2", "-5/2"), api.Spot{X: 3, Y: -3}},
		{at("4999999999/10000000000", "-4999999999/10000000000"), api.Spot{}}, {at("5000000001/10000000000", "-5000000001/10000000000"), api.Spot{X: 1, Y: -1}},
		{at("29999999999999999999999/20000000000000000000000", "-29999999999999999999999/20000000000000000000000"), api.Spot{X: 1, Y: -1}},
		{at("30000000000000000000001/20000000000000000000000", "-30000000000000000000001/20000000000000000000000"), api.Spot{X: 2, Y: -2}},
		{point.Of(1048576, 0), api.Spot{X: 1048576}}, {point.Of(0, 1048576), api.Spot{Y: 1048576}}, {point.Of(-1048576, 1048576), api.Spot{X: -1048576, Y: 1048576}}, {point.Of(7, -1048576), api.Spot{X: 7, Y: -1048576}},
		{at("2097151/2", "0"), api.Spot{X: 1048576}}, {at("0", "-2097151/2"), api.Spot{Y: -1048576}}, {at("2097149/2", "-2097149/2"), api.Spot{X: 1048575, Y: -1048575}},
		{at("20971529/20", "-20971529/20"), api.Spot{X: 1048576, Y: -1048576}}, {at("1048576499999999999999999/1000000000000000000", "0"), api.Spot{X: 1048576}},
		{api.Pt{}, api.Spot{}},
		{api.Pt{X: api.Ratio{Num: api.Int{Neg: true, Mag: api.Nat{0}}, Den: api.Nat{3}}, Y: api.Ratio{Num: api.Int{Mag: api.Nat{9}}, Den: api.Nat{0, 0}}}, api.Spot{}},
		{api.Pt{X: api.Ratio{Num: api.Int{Neg: true, Mag: api.Nat{9, 0}}, Den: api.Nat{6, 0}}, Y: api.Ratio{Num: api.Int{Mag: api.Nat{0, 1, 0}}, Den: api.Nat{0, 2}}}, api.Spot{X: -2, Y: 1}},
	} {
		gridIs(t, x.p, x.want, api.OK)
	}
}

// P8.4: each of the coordinates may be too large, above and below, and beyond every int.
func TestGridOutOfRange(t *testing.T) {
	for _, far := range []string{
		"2097153/2", "1048577", "1048576500000000000000000/1000000000000000000", "2147483648", "4294967295", "4294967296", "4295000000", "4294967297/2", "9223372036854775807", "9223372036854775808", "18446744073709551615/2",
		"18446744073709551616", "18446744073709551617", "340282366920938463463374607431768211456", "340282366920938463463374607431768211457/3",
	} {
		for _, sign := range []string{"", "-"} {
			for _, near := range []string{"0", "1/2", "1048576", "-1048576", sign + far} {
				gridIs(t, at(sign+far, near), api.Spot{}, api.ErrRange)
				gridIs(t, at(near, sign+far), api.Spot{}, api.ErrRange)
			}
		}
	}
	long := api.Ratio{Num: api.Int{Mag: make(api.Nat, 1000)}, Den: api.Nat{1}}
	long.Num.Mag[999] = 1
	gridIs(t, api.Pt{X: long, Y: fraction("0")}, api.Spot{}, api.ErrRange)
	gridIs(t, api.Pt{X: long, Y: long}, api.Spot{}, api.ErrRange)
	gridIs(t, api.Pt{X: long, Y: api.Ratio{Num: long.Num}}, api.Spot{}, api.ErrRange)
	gridIs(t, api.Pt{X: api.Ratio{Num: api.Int{Neg: true, Mag: api.Nat{1}}, Den: long.Num.Mag}, Y: api.Ratio{Num: long.Num}}, api.Spot{}, api.OK)
}

// P8.4: all points near the corners of the grid, by eighths.
func TestGridAtItsEnds(t *testing.T) {
	for _, corner := range []int64{api.MaxCoord, -api.MaxCoord, 0} {
		for eighth := int64(-16); eighth <= 16; eighth++ {
			v := big.NewRat(8*corner+eighth, 8)
			n, ok := stepOracle(v)
			want := api.Errno(api.OK)
			if !ok {
				want = api.ErrRange
			}
			gridIs(t, normalPt(vec{v, new(big.Rat)}), api.Spot{X: n}, want)
			gridIs(t, normalPt(vec{new(big.Rat), v}), api.Spot{Y: n}, want)
			gridIs(t, normalPt(vec{v, v}), api.Spot{X: n, Y: n}, want)
		}
	}
}

// P8.4
func TestGridInAnyForm(t *testing.T) {
	quads(func(a, b, c, d api.Pt) {
		for _, p := range []api.Pt{a, b, c, d, {X: a.X, Y: c.X}} {
			x, xOK := stepOracle(rat(p.X))
			y, yOK := stepOracle(rat(p.Y))
			if xOK && yOK {
				gridIs(t, p, api.Spot{X: x, Y: y}, api.OK)
			} else {
				gridIs(t, p, api.Spot{}, api.ErrRange)
			}
		}
	})
}

// gridIs fails the test unless p has this spot, or this error.
func gridIs(t *testing.T, p api.Pt, want api.Spot, wantError api.Errno) {
	t.Helper()
	if s, e := point.Grid(p); s != want || e != wantError {
		t.Errorf("Grid(%v): %v, %d, not %v, %d", p, s, e, want, wantError)
	}
}

// stepOracle returns v rounded, or 0 and false if that is above MaxCoord.
func stepOracle(v *big.Rat) (int, bool) {
	// With no digits behind the point, the standard library rounds halves away from zero.
	n, _ := new(big.Int).SetString(v.FloatString(0), 10)
	if n.CmpAbs(big.NewInt(api.MaxCoord)) > 0 {
		return 0, false
	}
	return int(n.Int64()), true
}
