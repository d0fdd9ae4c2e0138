package motion_test

import (
	"testing"

	"zoetrope/api"
)

// slope is a frame whose samples rise by steps: 8 a column and 1 a row of brightness, 4 a column and 2 a row of the first colour, and of the second 2 a column and 4 a row.
func slope() api.Frame {
	f := api.Frame{P: [3]api.Plane{{W: 16, H: 16}, {W: 8, H: 8}, {W: 8, H: 8}}}
	for n, step := range [3][2]int{{8, 1}, {4, 2}, {2, 4}} {
		p := &f.P[n]
		for at := range p.W * p.H {
			p.Pix = append(p.Pix, uint8(step[0]*(at%p.W)+step[1]*(at/p.W)))
		}
	}
	return f
}

func rect(x, y, w, h int) api.Rect { return api.Rect{X: x, Y: y, W: w, H: h} }

func vec(x, y int) api.Vec { return api.Vec{X: x, Y: y} }

// Blocks worked out by hand, of each plane (P15.1).
func TestSingleByHand(t *testing.T) {
	f := slope()
	at := rect(4, 4, 4, 4)
	// 36 is 8 4 and 4: what stands there
	singleIs(t, f, move{0, at, vec(0, 0), 0}, 36, 44, 52, 60, 37, 45, 53, 61, 38, 46, 54, 62, 39, 47, 55, 63)
	// a sample to the right, two up: 8 more, 2 less
	singleIs(t, f, move{0, at, vec(8, -16), 0}, 42, 50, 58, 66, 43, 51, 59, 67, 44, 52, 60, 68, 45, 53, 61, 69)
	// an eighth to the right: 1 more, since a column is 8
	singleIs(t, f, move{0, at, vec(1, 0), 2}, 37, 45, 53, 61, 38, 46, 54, 62, 39, 47, 55, 63, 40, 48, 56, 64)
	// five eighths to the left: 5 less
	singleIs(t, f, move{0, at, vec(-5, 0), 2}, 31, 39, 47, 55, 32, 40, 48, 56, 33, 41, 49, 57, 34, 42, 50, 58)
	// half a sample down: half more, rounded up
	singleIs(t, f, move{0, at, vec(0, 4), 2}, 37, 45, 53, 61, 38, 46, 54, 62, 39, 47, 55, 63, 40, 48, 56, 64)
	// three eighths of a sample down are less than half
	singleIs(t, f, move{0, at, vec(0, 3), 2}, 36, 44, 52, 60, 37, 45, 53, 61, 38, 46, 54, 62, 39, 47, 55, 63)
	// the first colour at 2, 2: 12; 16 to the right are a sample of colour
	low := rect(2, 2, 4, 4)
	singleIs(t, f, move{1, low, vec(0, 0), 0}, 12, 16, 20, 24, 14, 18, 22, 26, 16, 20, 24, 28, 18, 22, 26, 30)
	singleIs(t, f, move{1, low, vec(16, -16), 1}, 14, 18, 22, 26, 16, 20, 24, 28, 18, 22, 26, 30, 20, 24, 28, 32)
	// a quarter of a sample of colour to the right: 1 more; half of one down: 1 more
	singleIs(t, f, move{1, low, vec(4, 0), 2}, 13, 17, 21, 25, 15, 19, 23, 27, 17, 21, 25, 29, 19, 23, 27, 31)
	singleIs(t, f, move{1, low, vec(4, 8), 2}, 14, 18, 22, 26, 16, 20, 24, 28, 18, 22, 26, 30, 20, 24, 28, 32)
	// the second colour at 2, 2: 12, too; half a sample to the right is 1 more, a quarter down 1 more
	singleIs(t, f, move{2, low, vec(0, 0), 0}, 12, 14, 16, 18, 16, 18, 20, 22, 20, 22, 24, 26, 24, 26, 28, 30)
	singleIs(t, f, move{2, low, vec(8, 0), 2}, 13, 15, 17, 19, 17, 19, 21, 23, 21, 23, 25, 27, 25, 27, 29, 31)
	singleIs(t, f, move{2, low, vec(-8, 4), 2}, 12, 14, 16, 18, 16, 18, 20, 22, 20, 22, 24, 26, 24, 26, 28, 30)
}

// X and W go to the right, Y and H downwards: told by a block's first and last sample (P15.1).
func TestSingleSidesAndPlaces(t *testing.T) {
	f := slope()
	for _, c := range []struct {
		n          int
		r          api.Rect
		first, end uint8
	}{
		{0, rect(1, 0, 4, 4), 8, 35}, {0, rect(0, 1, 4, 4), 1, 28}, {0, rect(5, 2, 6, 4), 42, 85}, {0, rect(2, 5, 4, 6), 21, 50},
		{1, rect(1, 0, 4, 4), 4, 22}, {1, rect(0, 1, 4, 4), 2, 20}, {1, rect(1, 2, 6, 4), 8, 34}, {2, rect(2, 1, 4, 6), 8, 34}, {2, rect(1, 0, 4, 5), 2, 24},
	} {
		l := single(t, f, move{c.n, c.r, vec(0, 0), 0})
		if l[0] != c.first || l[len(l)-1] != c.end {
			t.Errorf("plane %d, %+v: from %d to %d, want from %d to %d", c.n, c.r, l[0], l[len(l)-1], c.first, c.end)
		}
	}
}

// Brightness is moved by twice the vector, colour by the vector itself: one frame, one vector, all planes (P15.1).
func TestScales(t *testing.T) {
	d := draws(1)
	p := d.plane(32, 32)
	half := d.plane(16, 16)
	f := api.Frame{P: [3]api.Plane{p, half, half}}
	for x := -20; x <= 20; x++ {
		for _, kind := range kinds() {
			for n := range 3 {
				asModel(t, f, move{n, rect(4, 4, 4, 4), vec(x, 3*x), kind})
				asModel(t, f, move{n, rect(5, 3, 4, 5), vec(-7, x), kind})
			}
			// both colours are the same planes, so they are moved alike
			m := move{1, rect(4, 4, 4, 4), vec(x, 5), kind}
			want := single(t, f, m)
			m.n = 2
			singleIs(t, f, m, want...)
		}
	}
	// where all planes have the same samples at their corner, colour at half the vector's places is brightness
	for at := range half.Pix {
		half.Pix[at] = p.Pix[at/16*32+at%16]
	}
	for x := -16; x <= 16; x++ {
		want := single(t, f, move{0, rect(4, 4, 4, 4), vec(x, -x/2), 0})
		singleIs(t, f, move{1, rect(4, 4, 4, 4), vec(2*x, 2*(-x/2)), 0}, want...)
	}
}

// Each plane is the one that is asked for (P15.1).
func TestPlanes(t *testing.T) {
	d := draws(2)
	f := d.frame(20, 18)
	for n := range 3 {
		g := d.frame(20, 18)
		g.P[n] = f.P[n]
		for _, kind := range kinds() {
			m := move{n, rect(3, 2, 5, 4), vec(11, -9), kind}
			singleIs(t, g, m, single(t, f, m)...)
			for o := range 3 {
				if o != n {
					asModel(t, g, move{o, m.r, m.v, kind})
				}
			}
		}
	}
}

// All eighths of brightness and all sixteenths of colour, both ways, by all kinds (P15.1).
func TestEveryPart(t *testing.T) {
	d := draws(3)
	f := d.frame(24, 20)
	for _, kind := range kinds() {
		for x := range 16 {
			for y := range 16 {
				for n := range 3 {
					asModel(t, f, move{n, rect(3, 2, 4, 4), vec(x, y), kind})
					asModel(t, f, move{n, rect(5, 4, 4, 5), vec(-x, -y), kind})
				}
			}
		}
	}
}

// Blocks wholly inside a plane, over each edge and each corner of it, and wholly beyond it on each side: there by their place, or by their vector (P15.1).
func TestEdges(t *testing.T) {
	d := draws(4)
	for _, f := range []api.Frame{d.frame(16, 20), d.frame(26, 16)} {
		for n, p := range f.P {
			scale := 8 // how much of a vector is a sample
			if n > 0 {
				scale = 16
			}
			at := func(side, size int) []int {
				return []int{-30, -size - 4, -size, -size + 1, -3, -1, 0, 1, 3, (side - size) / 2, side - size - 3, side - size, side - size + 1, side - 1, side, side + 1, side + 30}
			}
			for _, x := range at(p.W, 5) {
				for _, y := range at(p.H, 4) {
					moved := vec(x*scale+d.below(scale), y*scale+d.below(scale))
					asModel(t, f, move{n, rect(0, 0, 5, 4), moved, d.below(3)})
					if x >= 0 && y >= 0 {
						asModel(t, f, move{n, rect(x, y, 5, 4), vec(d.below(scale), d.below(scale)), d.below(3)})
					}
					// the place and the vector lead there together
					asModel(t, f, move{n, rect(40, 50, 5, 4), vec(moved.X-40*scale, moved.Y-50*scale), d.below(3)})
				}
			}
		}
	}
}

// Blocks anywhere about frames of all sizes (P15.1).
func TestFrames(t *testing.T) {
	d := draws(5)
	for _, f := range frames() {
		for range 40 {
			asModel(t, f, d.move(f))
		}
	}
}

// Rectangles at both ends of X, Y, W and H, mixed, of all planes (P15.1).
func TestRectangles(t *testing.T) {
	d := draws(6)
	for _, f := range []api.Frame{d.frame(16, 16), d.frame(256, 256), d.frame(70, 256)} {
		for _, x := range []int{0, 1, farthest - 1, farthest} {
			for _, y := range []int{0, 1, farthest - 1, farthest} {
				for _, w := range []int{4, 5, 63, 64} {
					for _, h := range []int{4, 5, 63, 64} {
						for n := range 3 {
							m := move{n, rect(x, y, w, h), vec(d.from(-api.MaxVec, api.MaxVec), d.from(-api.MaxVec, api.MaxVec)), d.below(3)}
							asFetched(t, f, m)
							if w+h < 12 {
								asModel(t, f, m)
							}
						}
					}
				}
			}
		}
	}
	f := d.frame(80, 72)
	for n := 4; n <= 64; n++ {
		asFetched(t, f, move{d.below(3), rect(d.below(80), d.below(80), n, d.from(4, 64)), vec(d.from(-99, 99), 7), d.below(3)})
		asFetched(t, f, move{d.below(3), rect(d.below(80), d.below(80), d.from(4, 64), n), vec(7, d.from(-99, 99)), d.below(3)})
	}
}

// Vectors at both ends, in either part and in both, by all kinds of all planes (P15.1).
func TestVectors(t *testing.T) {
	d := draws(7)
	ends := []int{-api.MaxVec, -api.MaxVec + 1, -1, 0, 1, api.MaxVec - 1, api.MaxVec}
	// of the greatest planes a vector of either end still leads from one place inside to another
	for _, f := range []api.Frame{d.frame(16, 16), d.frame(256, 256)} {
		for _, x := range ends {
			for _, y := range ends {
				for _, kind := range kinds() {
					for n := range 3 {
						for _, r := range []api.Rect{rect(0, 0, 4, 4), rect(250, 249, 5, 4), rect(512, 255, 4, 5), rect(farthest, farthest, 4, 4)} {
							asModel(t, f, move{n, r, vec(x, y), kind})
						}
					}
				}
			}
		}
	}
}

// The parts of a vector each move their own way (P15.1).
func TestPartsOfVectors(t *testing.T) {
	d := draws(8)
	f := d.frame(64, 64)
	for range 300 {
		asModel(t, f, move{d.below(3), rect(d.below(64), d.below(64), 4, 4), vec(d.from(-500, 500), 0), d.below(3)})
		asModel(t, f, move{d.below(3), rect(d.below(64), d.below(64), 4, 4), vec(0, d.from(-500, 500)), d.below(3)})
	}
}

// As far out as a block may lie there is what is nearest: the corner (P15.1).
func TestFarOut(t *testing.T) {
	d := draws(9)
	f := d.frame(16, 16)
	for n, p := range f.P {
		for _, kind := range kinds() {
			singleIs(t, f, move{n, rect(farthest, farthest, 64, 64), vec(api.MaxVec, api.MaxVec), kind}, alike(4096, uint8(near(p, 99, 99)))...)
			singleIs(t, f, move{n, rect(farthest, 0, 64, 64), vec(api.MaxVec, -api.MaxVec), kind}, alike(4096, uint8(near(p, 99, -9)))...)
			singleIs(t, f, move{n, rect(0, farthest, 64, 64), vec(-api.MaxVec, api.MaxVec), kind}, alike(4096, uint8(near(p, -9, 99)))...)
			singleIs(t, f, move{n, rect(0, 0, 64, 64), vec(-api.MaxVec, -api.MaxVec), kind}, alike(4096, p.Pix[0])...)
		}
	}
}
