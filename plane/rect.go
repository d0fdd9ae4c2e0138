package plane

import (
	"zoetrope/api"
)

// Cut is the samples of a rectangle.
func Cut(p api.Plane, r api.Rect) ([]uint8, api.Errno) {
	if Check(p) != api.OK || !within(p, r) {
		return nil, api.ErrArg
	}
	b := make([]uint8, r.W*r.H)
	for y := range r.H {
		copy(b[y*r.W:], line(p, r.X, r.Y+y, r.W))
	}
	return b, api.OK
}

// Lay is the plane with other samples in a rectangle's place.
func Lay(p api.Plane, r api.Rect, b []uint8) (api.Plane, api.Errno) {
	if Check(p) != api.OK || !within(p, r) || len(b) != r.W*r.H {
		return api.Plane{}, api.ErrArg
	}
	q := blank(p.W, p.H)
	copy(q.Pix, p.Pix)
	for y := range r.H {
		copy(line(q, r.X, r.Y+y, r.W), b[y*r.W:])
	}
	return q, api.OK
}

// Pad is the plane made greater, to the right and below, by what is nearest.
func Pad(p api.Plane, w, h int) (api.Plane, api.Errno) {
	if Check(p) != api.OK || !isSide(w) || !isSide(h) || w < p.W || h < p.H {
		return api.Plane{}, api.ErrArg
	}
	q := blank(w, h)
	for y := range h {
		from, to := line(p, 0, nearest(y, p.H), p.W), line(q, 0, y, w)
		n := copy(to, from)
		fill(to[n:], from[n-1])
	}
	return q, api.OK
}

// within tells whether a rectangle lies within a plane. It is held against what is left of the plane, because X + W and Y + H could leave the range.
func within(p api.Plane, r api.Rect) bool {
	return r.W >= 1 && r.H >= 1 && r.X >= 0 && r.Y >= 0 && r.W <= p.W-r.X && r.H <= p.H-r.Y
}

// line is w samples of a plane's row, from a place on to the right: not a copy, so it is both read and written through.
func line(p api.Plane, x, y, w int) []uint8 {
	from := y*p.W + x
	return p.Pix[from : from+w]
}
