package point_test

import (
	"math/rand/v2"
	"testing"

	"garment/api"
	"garment/point"
)

// P8.2: sides that were worked out by hand, that of example 1 among them.
func TestSide(t *testing.T) {
	for _, x := range []struct {
		a, b, p api.Pt
		want    int
	}{
		{point.Of(0, 0), point.Of(4, 0), point.Of(1, 1), 1}, {point.Of(0, 0), point.Of(4, 0), point.Of(1, -1), -1}, {point.Of(4, 0), point.Of(0, 0), point.Of(1, 1), -1},
		{point.Of(0, 0), point.Of(0, 3), point.Of(-1, 7), 1}, {point.Of(0, 0), point.Of(0, 3), point.Of(1, -7), -1},
		{point.Of(5, 5), point.Of(6, 6), point.Of(0, 1), 1}, {point.Of(5, 5), point.Of(6, 6), point.Of(1, 0), -1},
		{point.Of(0, 0), point.Of(3, 1), at("1", "33/100"), -1}, {point.Of(0, 0), point.Of(3, 1), at("1", "34/100"), 1},
		{point.Of(0, 0), point.Of(3, 1), at("1", "100000000000000000000/299999999999999999999"), 1}, {point.Of(0, 0), point.Of(3, 1), at("1", "100000000000000000000/300000000000000000001"), -1},
	} {
		sideIs(t, x.a, x.b, x.p, x.want)
	}
}

// P8.2: points on a line, two and three of them the same.
func TestSideOfPointsOnALine(t *testing.T) {
	a, b := at("1/3", "-2"), at("5", "7/2")
	for _, x := range [][3]api.Pt{
		{a, b, a}, {a, b, b}, {a, a, b}, {b, a, a}, {a, a, a}, {a, b, at("8/3", "3/4")}, {a, b, at("29/3", "9")}, {a, b, at("-13/3", "-15/2")},
		{point.Of(0, 0), point.Of(3, 1), at("1", "1/3")}, {point.Of(0, 0), point.Of(4, 0), point.Of(9, 0)}, {point.Of(0, 0), point.Of(0, 0), point.Of(9, 1)},
		{{}, point.Of(0, 0), b}, {at("1/2", "0"), {X: api.Ratio{Num: api.Int{Mag: api.Nat{2, 0}}, Den: api.Nat{4}}}, b}, {},
	} {
		sideIs(t, x[0], x[1], x[2], 0)
	}
}

// P8.2: the sides of points in any form are those of the standard library.
func TestSideInAnyForm(t *testing.T) {
	quads(func(a, b, c, d api.Pt) {
		for _, p := range []api.Pt{a, b, c, d} {
			sideIs(t, a, b, p, sideOracle(value(a), value(b), value(p)))
			sideIs(t, d, c, p, sideOracle(value(d), value(c), value(p)))
		}
	})
}

// sideIs fails the test unless p lies on this side of the way from a to b.
func sideIs(t *testing.T, a, b, p api.Pt, want int) {
	t.Helper()
	if side := point.Side(a, b, p); side != want {
		t.Errorf("Side(%v, %v, %v): %d, not %d", a, b, p, side, want)
	}
}

// P8.3: the points at 0 and 1, between them, before and behind them; that of example 2 among them.
func TestOn(t *testing.T) {
	a, b := point.Of(0, 0), point.Of(4, 2)
	c, d := at("1/2", "-3"), at("5/6", "2/3")
	for _, x := range []struct {
		a, b, want api.Pt
		t          string
	}{
		{a, b, at("1", "1/2"), "1/4"}, {a, b, a, "0"}, {a, b, b, "1"}, {a, b, point.Of(-4, -2), "-1"}, {a, b, point.Of(6, 3), "3/2"}, {b, a, at("3", "3/2"), "1/4"},
		{c, d, c, "0"}, {c, d, d, "1"}, {c, d, at("2/3", "-7/6"), "1/2"}, {c, d, at("1/6", "-20/3"), "-1"}, {c, d, at("7/6", "13/3"), "2"}, {d, c, at("7/6", "13/3"), "-1"},
		{c, c, c, "0"}, {c, c, c, "-5/3"}, {a, a, a, "7"},
	} {
		same(t, "On", point.On(x.a, x.b, fraction(x.t)), x.want)
	}
	same(t, "On at -0", point.On(c, d, api.Ratio{Num: api.Int{Neg: true}, Den: api.Nat{7, 0}}), c)
	same(t, "On at 5/0", point.On(c, d, api.Ratio{Num: api.Int{Mag: api.Nat{5}}}), c)
	same(t, "On at 6/6", point.On(c, d, api.Ratio{Num: api.Int{Mag: api.Nat{6, 0}}, Den: api.Nat{6}}), d)
}

// P8.3
func TestOnInAnyForm(t *testing.T) {
	quads(func(a, b, c, _ api.Pt) {
		same(t, "On", point.On(a, b, c.X), normalPt(onOracle(value(a), value(b), rat(c.X))))
	})
}

// P8.3: common points that were worked out by hand, that of example 2 among them.
func TestMeet(t *testing.T) {
	for _, x := range []struct{ a, b, c, d, want api.Pt }{
		{point.Of(0, 0), point.Of(2, 2), point.Of(0, 2), point.Of(2, 0), point.Of(1, 1)},
		{point.Of(0, 0), point.Of(1, 2), point.Of(1, 0), point.Of(1, 5), point.Of(1, 2)},
		{point.Of(0, 0), point.Of(3, 1), point.Of(0, 1), point.Of(1, 0), at("3/4", "1/4")},
		{point.Of(0, 0), point.Of(1, 0), point.Of(5, 3), point.Of(5, 4), point.Of(5, 0)},
		{point.Of(0, 0), point.Of(1, 0), point.Of(-5, 3), point.Of(-5, 4), point.Of(-5, 0)},
		{point.Of(7, 7), point.Of(8, 9), point.Of(7, 7), point.Of(0, 1), point.Of(7, 7)},
		{point.Of(7, 7), point.Of(8, 9), point.Of(0, 1), point.Of(8, 9), point.Of(8, 9)},
		{at("1/2", "1/3"), at("3/2", "1/3"), at("-1/5", "0"), at("-1/5", "7"), at("-1/5", "1/3")},
		{point.Of(0, 0), point.Of(100000, 1), point.Of(0, 1), point.Of(100000, 1), point.Of(100000, 1)},
		{point.Of(0, 0), point.Of(100000, 100001), point.Of(0, 1), point.Of(100000, 100000), at("50000", "100001/2")},
	} {
		meetsAt(t, x.a, x.b, x.c, x.d, x.want)
	}
}

// meetsAt fails the test unless the two lines meet at want, from whichever ends they are given and in whichever order.
func meetsAt(t *testing.T, a, b, c, d, want api.Pt) {
	t.Helper()
	for _, l := range [][4]api.Pt{{a, b, c, d}, {b, a, c, d}, {a, b, d, c}, {b, a, d, c}, {c, d, a, b}, {d, c, b, a}} {
		p, e := point.Meet(l[0], l[1], l[2], l[3])
		gives(t, "Meet", p, e, want)
	}
}

// P8.3: lines that are parallel, equal, or do not exist.
func TestMeetOfLinesWithoutACommonPoint(t *testing.T) {
	o, a, b := point.Of(0, 0), at("1/2", "1/3"), at("-3", "5/7")
	halfAgain := api.Pt{X: api.Ratio{Num: api.Int{Mag: api.Nat{2, 0}}, Den: api.Nat{4, 0}}, Y: api.Ratio{Num: api.Int{Mag: api.Nat{5}}, Den: api.Nat{15}}}
	for _, x := range [][4]api.Pt{
		{o, point.Of(1, 0), point.Of(0, 1), point.Of(1, 1)}, {o, point.Of(0, 4), point.Of(1, 0), point.Of(1, -1)}, {o, a, b, point.Add(a, b)}, {o, a, point.Add(a, b), b},
		{o, point.Of(1, 1), point.Of(2, 2), point.Of(3, 3)}, {o, point.Of(1, 1), o, point.Of(1, 1)}, {a, b, a, b}, {a, b, b, a}, {a, b, b, point.On(a, b, fraction("7/3"))},
		{o, o, point.Of(0, 1), point.Of(1, 0)}, {a, a, o, b}, {a, halfAgain, o, b}, {a, a, a, b}, {a, halfAgain, b, a}, {a, a, b, b}, {a, a, a, a}, {a, halfAgain, a, halfAgain}, {o, {}, a, b}, {},
	} {
		for _, l := range [][4]api.Pt{x, {x[1], x[0], x[2], x[3]}, {x[2], x[3], x[0], x[1]}, {x[3], x[2], x[0], x[1]}} {
			p, e := point.Meet(l[0], l[1], l[2], l[3])
			isErrZero(t, "Meet", p, e)
		}
	}
}

// P8.3: the common points of lines in any form are those of Cramer's rule.
func TestMeetInAnyForm(t *testing.T) {
	met, missed := 0, 0
	quads(func(a, b, c, d api.Pt) {
		p, e := point.Meet(a, b, c, d)
		want, ok := meetOracle(value(a), value(b), value(c), value(d))
		if !ok {
			missed++
			isErrZero(t, "Meet", p, e)
			return
		}
		met++
		gives(t, "Meet", p, e, normalPt(want))
	})
	if met < 100 || missed < 100 {
		t.Errorf("%d pairs of lines meet, %d do not", met, missed)
	}
}

// P8.3: feet and images that were worked out by hand, those of example 3 among them.
func TestFootAndMirror(t *testing.T) {
	for _, x := range []struct{ p, a, b, foot, image api.Pt }{
		{point.Of(0, 2), point.Of(0, 0), point.Of(2, 2), point.Of(1, 1), point.Of(2, 0)},
		{point.Of(3, 5), point.Of(1, 0), point.Of(4, 0), point.Of(3, 0), point.Of(3, -5)},
		{point.Of(9, 5), point.Of(1, 0), point.Of(4, 0), point.Of(9, 0), point.Of(9, -5)},
		{point.Of(-3, 5), point.Of(1, 1), point.Of(1, 4), point.Of(1, 5), point.Of(5, 5)},
		{point.Of(1, 0), point.Of(0, 0), point.Of(1, 2), at("1/5", "2/5"), at("-3/5", "4/5")},
		{point.Of(0, 0), point.Of(0, 1), point.Of(1, 0), at("1/2", "1/2"), point.Of(1, 1)},
		{at("1/2", "1/3"), at("0", "1/5"), at("7", "1/5"), at("1/2", "1/5"), at("1/2", "1/15")},
	} {
		reflects(t, x.p, x.a, x.b, x.foot, x.image)
		reflects(t, x.p, x.b, x.a, x.foot, x.image)
		reflects(t, x.image, x.a, x.b, x.foot, x.p)
	}
}

// P8.3: a point of the line is its own foot and its own image.
func TestFootAndMirrorOfPointsOfTheLine(t *testing.T) {
	a, b := at("1/3", "-2"), at("5", "7/2")
	for _, at := range []string{"0", "1", "1/2", "-3", "7/5", "123456789012345678901234567890/7"} {
		p := point.On(a, b, fraction(at))
		reflects(t, p, a, b, p, p)
		reflects(t, p, b, a, p, p)
	}
	reflects(t, point.Of(4, 4), point.Of(0, 0), point.Of(2, 2), point.Of(4, 4), point.Of(4, 4))
}

// reflects fails the test unless p has this foot on the line ab and this image in it.
func reflects(t *testing.T, p, a, b, foot, image api.Pt) {
	t.Helper()
	f, e := point.Foot(p, a, b)
	gives(t, "Foot", f, e, foot)
	m, e := point.Mirror(p, a, b)
	gives(t, "Mirror", m, e, image)
}

// P8.3: there is no line through one point.
func TestFootAndMirrorWithoutALine(t *testing.T) {
	draw := rand.New(rand.NewPCG(8, 3))
	for range 200 {
		a, p := drawn(draw), drawn(draw)
		for _, b := range []api.Pt{a, form(draw, a)} {
			reflectsNothing(t, p, a, b)
			reflectsNothing(t, a, a, b)
			reflectsNothing(t, b, b, a)
		}
	}
	reflectsNothing(t, point.Of(1, 2), api.Pt{}, point.Of(0, 0))
	reflectsNothing(t, api.Pt{}, api.Pt{}, api.Pt{})
}

// reflectsNothing fails the test unless both functions say that there is no line ab.
func reflectsNothing(t *testing.T, p, a, b api.Pt) {
	t.Helper()
	f, e := point.Foot(p, a, b)
	isErrZero(t, "Foot", f, e)
	m, e := point.Mirror(p, a, b)
	isErrZero(t, "Mirror", m, e)
}

// P8.3: feet and images in any form are those that follow from the normal of the line.
func TestFootAndMirrorInAnyForm(t *testing.T) {
	quads(func(p, a, b, c api.Pt) {
		for _, l := range [][2]api.Pt{{a, b}, {c, a}, {p, c}} {
			foot, ok := footOracle(value(p), value(l[0]), value(l[1]))
			if !ok {
				reflectsNothing(t, p, l[0], l[1])
				continue
			}
			image := subOracle(addOracle(foot, foot), value(p))
			reflects(t, p, l[0], l[1], normalPt(foot), normalPt(image))
		}
	})
}
