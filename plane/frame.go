package plane

import (
	"zoetrope/api"
)

// codedStep is what the sides of a frame are multiples of when it is coded.
const codedStep = 8

// size is how wide and high a plane is.
type size struct{ w, h int }

// sizes are those of the planes of a frame.
func sizes(w, h int) [3]size {
	colour := size{w / 2, h / 2}
	return [3]size{{w, h}, colour, colour}
}

// Frame is one of a size, whose samples are all alike.
func Frame(w, h int, v uint8) (api.Frame, api.Errno) {
	if !isVideoSide(w) || !isVideoSide(h) {
		return api.Frame{}, api.ErrArg
	}
	var f api.Frame
	for i, s := range sizes(w, h) {
		f.P[i], _ = New(s.w, s.h, v) // such sides may be, so there is no error to tell
	}
	return f, api.OK
}

func isVideoSide(n int) bool { return n >= api.MinSide && n <= api.MaxSide && n%2 == 0 }

// Whole tells whether a frame may be.
func Whole(f api.Frame) api.Errno {
	w, h := f.P[0].W, f.P[0].H
	if !isVideoSide(w) || !isVideoSide(h) {
		return api.ErrArg
	}
	for i, s := range sizes(w, h) {
		if f.P[i].W != s.w || f.P[i].H != s.h || Check(f.P[i]) != api.OK {
			return api.ErrArg
		}
	}
	return api.OK
}

// Coded is the frame as great as it is coded.
func Coded(f api.Frame) (api.Frame, api.Errno) {
	if e := Whole(f); e != api.OK {
		return api.Frame{}, e
	}
	var c api.Frame
	for i, s := range sizes(codedSide(f.P[0].W), codedSide(f.P[0].H)) {
		c.P[i], _ = Pad(f.P[i], s.w, s.h) // no side becomes less, nor greater than MaxSide
	}
	return c, api.OK
}

func codedSide(n int) int { return (n + codedStep - 1) / codedStep * codedStep }

// Crop is the frame cut to a size, from its upper left corner on.
func Crop(f api.Frame, w, h int) (api.Frame, api.Errno) {
	if e := Whole(f); e != api.OK {
		return api.Frame{}, e
	}
	if !isVideoSide(w) || !isVideoSide(h) || w > f.P[0].W || h > f.P[0].H {
		return api.Frame{}, api.ErrArg
	}
	var c api.Frame
	for i, s := range sizes(w, h) {
		b, _ := Cut(f.P[i], api.Rect{W: s.w, H: s.h}) // it lies within, as the frame's sizes do
		c.P[i] = api.Plane{W: s.w, H: s.h, Pix: b}
	}
	return c, api.OK
}
