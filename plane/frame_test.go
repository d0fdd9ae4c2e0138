package plane_test

import (
	"math"
	"slices"
	"testing"

	"zoetrope/api"
	"zoetrope/plane"
)

// videoSides are all that a frame's sides may be.
func videoSides() []int {
	var l []int
	for n := 16; n <= 256; n += 2 {
		l = append(l, n)
	}
	return l
}

// frameShapes are sizes that frames may have: both ends, what lies beside them, and each rest that is left of 8.
func frameShapes() [][2]int {
	return [][2]int{{16, 16}, {18, 16}, {16, 18}, {20, 22}, {22, 24}, {24, 20}, {26, 64}, {64, 30}, {16, 256}, {256, 16}, {254, 254}, {250, 32}, {34, 252}, {256, 256}}
}

func frames() []api.Frame {
	d := draws(30)
	var l []api.Frame
	for _, s := range frameShapes() {
		l = append(l, d.frame(s[0], s[1]))
	}
	return l
}

// with is a frame one of whose planes is another.
func with(f api.Frame, i int, p api.Plane) api.Frame {
	f.P[i] = p
	return f
}

// wrongFrames are frames that may not be.
func wrongFrames() []api.Frame {
	d := draws(31)
	f := d.frame(18, 16)
	l := []api.Frame{{}, with(api.Frame{}, 0, f.P[0]), with(with(api.Frame{}, 1, f.P[1]), 2, f.P[2])}
	for _, s := range [][2]int{{14, 16}, {16, 14}, {15, 16}, {16, 15}, {17, 16}, {16, 17}, {17, 17}, {2, 2}, {8, 8}, {258, 16}, {16, 258}, {257, 16}, {16, 257}, {255, 256}, {256, 255}, {512, 512}, {260, 260}} {
		l = append(l, d.frame(s[0], s[1]))
	}
	for i := range 3 {
		for _, p := range wrong() {
			l = append(l, with(f, i, p))
		}
		p := f.P[i]
		l = append(l,
			with(f, i, api.Plane{W: p.W, H: p.H}), with(f, i, api.Plane{W: p.W, H: p.H, Pix: p.Pix[:len(p.Pix)-1]}), with(f, i, api.Plane{W: p.W, H: p.H, Pix: append(slices.Clone(p.Pix), 1)}),
			with(f, i, api.Plane{W: p.H, H: p.W, Pix: p.Pix}), with(f, i, api.Plane{W: p.W, H: p.H / 2, Pix: p.Pix}), with(f, i, api.Plane{W: p.W / 2, H: p.H, Pix: p.Pix}))
		for _, s := range [][2]int{{1, 0}, {0, 1}, {-1, 0}, {0, -1}, {2, 0}, {0, 2}, {-2, 0}, {0, -2}, {p.W, p.H}, {-p.W / 2, -p.H / 2}} {
			l = append(l, with(f, i, d.plane(p.W+s[0], p.H+s[1])))
		}
	}
	return append(l, with(f, 0, f.P[1]), with(f, 1, f.P[0]), with(f, 2, f.P[0]), with(with(f, 1, f.P[0]), 2, f.P[0]))
}

// The chapter's row of frames (P5.4, P5.5).
func TestFrameExamples(t *testing.T) {
	f := mustFrame(t)(plane.Frame(18, 16, 5))
	c := mustFrame(t)(plane.Coded(f))
	for i, s := range [][2]int{{24, 16}, {12, 8}, {12, 8}} {
		if c.P[i].W != s[0] || c.P[i].H != s[1] {
			t.Errorf("plane %d is %d by %d", i, c.P[i].W, c.P[i].H)
		}
	}
	if !sameFrame(mustFrame(t)(plane.Crop(c, 18, 16)), f) {
		t.Error("another frame")
	}
	for _, s := range [][2]int{{15, 16}, {258, 16}} {
		if f, e := plane.Frame(s[0], s[1], 5); !zeroFrame(f) || e != 2 {
			t.Errorf("Frame(%d, %d, 5): %d", s[0], s[1], e)
		}
	}
}

// Every side that a frame may have, and every one about it that it may not (P5.4).
func TestFrame(t *testing.T) {
	for n := -20; n < 280; n++ {
		for _, s := range [][2]int{{n, 16}, {16, n}, {n, 256}, {n, n}} {
			v := uint8(n * 7)
			f, e := plane.Frame(s[0], s[1], v)
			if n < 16 || n > 256 || n%2 != 0 {
				if !zeroFrame(f) || e != api.ErrArg {
					t.Errorf("Frame(%d, %d): %d", s[0], s[1], e)
				}
				continue
			}
			alike := func(w, h int) api.Plane {
				return api.Plane{W: w, H: h, Pix: slices.Repeat([]uint8{v}, w*h)}
			}
			small := alike(s[0]/2, s[1]/2)
			if want := (api.Frame{P: [3]api.Plane{alike(s[0], s[1]), small, small}}); !sameFrame(f, want) || e != api.OK || plane.Whole(f) != api.OK {
				t.Errorf("Frame(%d, %d, %d): %d", s[0], s[1], v, e)
			}
		}
	}
	for _, n := range append(noSides(), 512, 258) {
		for _, m := range []int{16, 256, n, 17} {
			for _, s := range [][2]int{{n, m}, {m, n}} {
				if f, e := plane.Frame(s[0], s[1], 3); !zeroFrame(f) || e != api.ErrArg {
					t.Errorf("Frame(%d, %d): %d", s[0], s[1], e)
				}
			}
		}
	}
}

// Frames that may be, of each side, and frames that may not (P5.4).
func TestWhole(t *testing.T) {
	for _, f := range frames() {
		if e := plane.Whole(f); e != api.OK {
			t.Errorf("%d by %d: %d", f.P[0].W, f.P[0].H, e)
		}
	}
	d := draws(32)
	for _, n := range videoSides() {
		if plane.Whole(d.frame(n, 16)) != api.OK || plane.Whole(d.frame(16, n)) != api.OK {
			t.Errorf("of side %d", n)
		}
	}
	for i, f := range wrongFrames() {
		if e := plane.Whole(f); e != api.ErrArg {
			t.Errorf("%d: %d by %d, %d by %d, %d by %d: %d", i, f.P[0].W, f.P[0].H, f.P[1].W, f.P[1].H, f.P[2].W, f.P[2].H, e)
		}
	}
}

// brought is the next multiple of 8, found by going there.
func brought(n int) int {
	for n%8 != 0 {
		n++
	}
	return n
}

// coded tries a frame: each plane is padded, and what it was is cut out again (P5.5, P5.8).
func coded(t *testing.T, f api.Frame) {
	t.Helper()
	c := mustFrame(t)(plane.Coded(f))
	w, h := brought(f.P[0].W), brought(f.P[0].H)
	for i, s := range [][2]int{{w, h}, {w / 2, h / 2}, {w / 2, h / 2}} {
		want := api.Plane{W: s[0], H: s[1], Pix: taken(f.P[i], api.Rect{W: s[0], H: s[1]})}
		if !same(c.P[i], want) {
			t.Errorf("%d by %d: plane %d is another: %d by %d", f.P[0].W, f.P[0].H, i, c.P[i].W, c.P[i].H)
		}
	}
	if !sameFrame(mustFrame(t)(plane.Crop(c, f.P[0].W, f.P[0].H)), f) {
		t.Errorf("%d by %d: what is cropped is another frame", f.P[0].W, f.P[0].H)
	}
	if again := mustFrame(t)(plane.Coded(c)); !sameFrame(again, c) {
		t.Errorf("%d by %d: coded again it is another frame", f.P[0].W, f.P[0].H)
	}
}

// Frames of every side as they are coded (P5.5, P5.8).
func TestCoded(t *testing.T) {
	for _, f := range frames() {
		coded(t, f)
	}
	d := draws(33)
	for _, n := range videoSides() {
		coded(t, d.frame(n, 16))
		coded(t, d.frame(18, n))
	}
}

// cropped tries a size to crop to, one that may be or not.
func cropped(t *testing.T, f api.Frame, w, h int) {
	t.Helper()
	g, e := plane.Crop(f, w, h)
	if w < 16 || h < 16 || w > f.P[0].W || h > f.P[0].H || w%2 != 0 || h%2 != 0 {
		if !zeroFrame(g) || e != api.ErrArg {
			t.Errorf("%d by %d: Crop(%d, %d): %d", f.P[0].W, f.P[0].H, w, h, e)
		}
		return
	}
	for i, s := range [][2]int{{w, h}, {w / 2, h / 2}, {w / 2, h / 2}} {
		want := api.Plane{W: s[0], H: s[1], Pix: taken(f.P[i], api.Rect{W: s[0], H: s[1]})}
		if !same(g.P[i], want) || e != api.OK {
			t.Errorf("%d by %d: Crop(%d, %d): plane %d is another: %d", f.P[0].W, f.P[0].H, w, h, i, e)
		}
	}
}

// Every size about the one that a frame has (P5.5).
func TestCrop(t *testing.T) {
	d := draws(34)
	f := d.frame(24, 22)
	for w := -20; w < 30; w++ {
		for h := -20; h < 30; h++ {
			cropped(t, f, w, h)
		}
	}
	for _, f := range frames() {
		w, h := f.P[0].W, f.P[0].H
		for _, s := range [][2]int{{w, h}, {16, 16}, {w, 16}, {16, h}, {w - 2, h}, {w, h - 2}, {w + 2, h}, {w, h + 2}, {w - 1, h}, {w, h - 1}, {w + 1, h}, {w, h + 1}, {14, h}, {w, 14}, {15, h}, {w, 15}, {h, w}, {w / 2, h / 2}, {256, 256}, {258, 258}} {
			cropped(t, f, s[0], s[1])
		}
		for _, n := range noSides() {
			cropped(t, f, n, 16)
			cropped(t, f, 16, n)
			cropped(t, f, n, n)
		}
	}
}

// ErrArg of frames that may not be, whatever the size (P5.5).
func TestWrongFrames(t *testing.T) {
	for i, f := range wrongFrames() {
		if c, e := plane.Coded(f); !zeroFrame(c) || e != api.ErrArg {
			t.Errorf("%d: Coded: %d", i, e)
		}
		for _, s := range [][2]int{{16, 16}, {f.P[0].W, f.P[0].H}, {18, 16}, {0, 0}, {-16, 16}, {math.MaxInt, math.MinInt}} {
			if c, e := plane.Crop(f, s[0], s[1]); !zeroFrame(c) || e != api.ErrArg {
				t.Errorf("%d: Crop(%d, %d): %d", i, s[0], s[1], e)
			}
		}
	}
}
