package point

import (
	"garment/api"
	"garment/ratio"
)

// Side returns the side of the way from a to b on which p lies.
func Side(a, b, p api.Pt) int {
	// The zero Ratio has the denominator 0 and so denotes 0.
	return ratio.Cmp(Cross(Sub(b, a), Sub(p, a)), api.Ratio{})
}

// On returns a + t * (b - a).
func On(a, b api.Pt, t api.Ratio) api.Pt {
	return Add(a, Scale(Sub(b, a), t))
}

// Meet returns the common point of the lines ab and cd.
func Meet(a, b, c, d api.Pt) (api.Pt, api.Errno) {
	ab, cd := Sub(b, a), Sub(d, c)
	// At t, the way from c to a + t * ab has the direction of cd: its determinant with cd is 0.
	return onAt(a, b, Cross(Sub(c, a), cd), Cross(ab, cd))
}

// Foot returns the point of the line ab that is nearest to p.
func Foot(p, a, b api.Pt) (api.Pt, api.Errno) {
	ab := Sub(b, a)
	// At t, the way from p to a + t * ab is perpendicular to ab: its scalar product with ab is 0.
	return onAt(a, b, Dot(Sub(p, a), ab), Dot(ab, ab))
}

// Mirror returns the image of p in the line ab.
func Mirror(p, a, b api.Pt) (api.Pt, api.Errno) {
	foot, e := Foot(p, a, b)
	if e != api.OK {
		return api.Pt{}, e
	}
	return Sub(Add(foot, foot), p), api.OK
}

// onAt returns the point of the line ab at above / below.
func onAt(a, b api.Pt, above, below api.Ratio) (api.Pt, api.Errno) {
	t, ok := ratio.Div(above, below)
	if !ok {
		return api.Pt{}, api.ErrZero
	}
	return On(a, b, t), api.OK
}
