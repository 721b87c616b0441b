package point_test

import (
	"testing"

	"garment/api"
	"garment/point"
	"garment/ratio"
)

// P8.2: the side does not change with the point of the triangle at which the way begins, and changes its sign with the way round it.
func TestLawsOfSides(t *testing.T) {
	quads(func(a, b, p, _ api.Pt) {
		side := point.Side(a, b, p)
		for _, l := range [][3]api.Pt{{b, p, a}, {p, a, b}} {
			sideIs(t, l[0], l[1], l[2], side)
		}
		for _, l := range [][3]api.Pt{{b, a, p}, {a, p, b}, {p, b, a}} {
			sideIs(t, l[0], l[1], l[2], -side)
		}
	})
}

// P8.3: the common point of two lines lies on both of them.
func TestLawOfMeet(t *testing.T) {
	quads(func(a, b, c, d api.Pt) {
		if p, e := point.Meet(a, b, c, d); e == api.OK {
			sideIs(t, a, b, p, 0)
			sideIs(t, c, d, p, 0)
		}
	})
}

// P8.3: the foot lies on the line, no other point of the line is as near, and the image of the image is the point.
func TestLawsOfFootAndMirror(t *testing.T) {
	quads(func(p, a, b, c api.Pt) {
		foot, e := point.Foot(p, a, b)
		if e != api.OK {
			return
		}
		sideIs(t, a, b, foot, 0)
		for _, other := range []api.Pt{a, b, point.On(a, b, c.X), point.On(foot, b, fraction("-1/1000")), point.On(foot, a, fraction("1/1000"))} {
			if !point.Same(other, foot) && ratio.Cmp(distance(p, other), distance(p, foot)) <= 0 {
				t.Errorf("%v on the line %v %v is as near to %v as %v", other, a, b, p, foot)
			}
		}
		image, _ := point.Mirror(p, a, b)
		back, e := point.Mirror(image, a, b)
		gives(t, "Mirror of the image", back, e, normalPt(value(p)))
		sameRatio(t, "distance of the image", distance(image, a), distance(p, a))
		sideIs(t, a, b, image, -point.Side(a, b, p))
	})
}

// distance returns the square of the distance of a and b.
func distance(a, b api.Pt) api.Ratio {
	return point.Dot(point.Sub(a, b), point.Sub(a, b))
}
