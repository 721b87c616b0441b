package point

import (
	"garment/api"
	"garment/integer"
	"garment/ratio"
)

// Grid returns p with rounded coordinates.
func Grid(p api.Pt) (api.Spot, api.Errno) {
	x, xOK := step(p.X)
	y, yOK := step(p.Y)
	if !xOK || !yOK {
		return api.Spot{}, api.ErrRange
	}
	return api.Spot{X: x, Y: y}, api.OK
}

// step returns a rounded, or false if that is not a coordinate on the grid.
func step(a api.Ratio) (int, bool) {
	n, ok := integer.Small(ratio.Round(a))
	return n, ok && -api.MaxCoord <= n && n <= api.MaxCoord
}
