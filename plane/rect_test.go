package plane_test

import (
	"math"
	"slices"
	"testing"

	"zoetrope/api"
	"zoetrope/plane"
)

// The chapter's rows of rectangles (P5.2).
func TestRectExamples(t *testing.T) {
	for _, x := range []struct {
		r api.Rect
		b []uint8
		e api.Errno
	}{{api.Rect{X: 1, Y: 0, W: 1, H: 2}, []uint8{2, 4}, 0}, {api.Rect{X: 1, Y: 0, W: 2, H: 1}, nil, 2}, {api.Rect{X: 0, Y: 0, W: 0, H: 1}, nil, 2}} {
		if b, e := plane.Cut(four(), x.r); !slices.Equal(b, x.b) || e != x.e {
			t.Errorf("Cut(P, %v): got %v, %d, want %v, %d", x.r, b, e, x.b, x.e)
		}
	}
	r := api.Rect{X: 0, Y: 1, W: 2, H: 1}
	if p, e := plane.Lay(four(), r, []uint8{7, 8}); !same(p, ints(2, 2, 1, 2, 7, 8)) || e != 0 {
		t.Errorf("Lay(P, %v, 7 8): %v, %d", r, p, e)
	}
	if p, e := plane.Lay(four(), r, []uint8{7}); !zero(p) || e != 2 {
		t.Errorf("Lay(P, %v, 7): %v, %d", r, p, e)
	}
}

// rects tries a rectangle both ways: to cut it, and to lay as many samples as it has.
func rects(t *testing.T, p api.Plane, r api.Rect) {
	t.Helper()
	b, e := plane.Cut(p, r)
	if !inside(p, r) {
		if len(b) != 0 || e != api.ErrArg {
			t.Errorf("%d by %d: Cut(%v): %d samples, %d", p.W, p.H, r, len(b), e)
		}
		for _, n := range []int{0, 1, 2, 4, len(p.Pix)} {
			if q, e := plane.Lay(p, r, make([]uint8, n)); !zero(q) || e != api.ErrArg {
				t.Errorf("%d by %d: Lay(%v): %d by %d, %d", p.W, p.H, r, q.W, q.H, e)
			}
		}
		return
	}
	if !slices.Equal(b, taken(p, r)) || e != api.OK {
		t.Errorf("%d by %d: Cut(%v): %v, %d", p.W, p.H, r, b, e)
	}
	d := draws(len(b))
	b = d.samples(r.W * r.H)
	want := twin(p)
	for i, v := range b {
		want.Pix[(r.Y+i/r.W)*p.W+r.X+i%r.W] = v
	}
	if q, e := plane.Lay(p, r, b); !same(q, want) || e != api.OK {
		t.Errorf("%d by %d: Lay(%v): %v, %d", p.W, p.H, r, q, e)
	}
}

// Every rectangle of small planes, and those that reach a little beyond (P5.2).
func TestEveryRect(t *testing.T) {
	d := draws(2)
	for _, s := range [][2]int{{1, 1}, {3, 1}, {1, 4}, {5, 4}} {
		p := d.plane(s[0], s[1])
		for x := -2; x < p.W+2; x++ {
			for y := -2; y < p.H+2; y++ {
				for w := -2; w < p.W+3; w++ {
					for h := -2; h < p.H+3; h++ {
						rects(t, p, api.Rect{X: x, Y: y, W: w, H: h})
					}
				}
			}
		}
	}
}

// Rectangles of numbers so great that a sum leaves the range (P5.2).
func TestRectsFar(t *testing.T) {
	d := draws(3)
	p := d.plane(5, 4)
	for _, x := range far() {
		for _, y := range far() {
			for _, w := range far() {
				for _, h := range far() {
					rects(t, p, api.Rect{X: x, Y: y, W: w, H: h})
				}
			}
		}
	}
}

// Rectangles of planes of all shapes: the whole, its ends, one sample more or less on each side (P5.2).
func TestRectsAtTheEnds(t *testing.T) {
	for _, p := range planes() {
		for _, x := range []int{-1, 0, 1, p.W / 2, p.W - 2, p.W - 1, p.W} {
			for _, y := range []int{0, p.H - 1, p.H} {
				for _, w := range []int{0, 1, p.W - x - 1, p.W - x, p.W - x + 1} {
					h := min(p.H-y, 3)
					rects(t, p, api.Rect{X: x, Y: y, W: w, H: h})
				}
			}
		}
		for _, y := range []int{-1, 0, 1, p.H / 2, p.H - 2, p.H - 1, p.H} {
			for _, h := range []int{0, 1, p.H - y - 1, p.H - y, p.H - y + 1} {
				rects(t, p, api.Rect{X: p.W / 2, Y: y, W: min(p.W-p.W/2, 2), H: h})
			}
		}
		rects(t, p, api.Rect{W: p.W, H: p.H})
		rects(t, p, api.Rect{W: p.W + 1, H: p.H})
		rects(t, p, api.Rect{W: p.W, H: p.H + 1})
		rects(t, p, api.Rect{W: p.H, H: p.W})
	}
}

// ErrArg of planes that may not be, though the rectangle would lie within (P5.2).
func TestRectsOfWrongPlanes(t *testing.T) {
	for i, p := range wrong() {
		for _, r := range []api.Rect{{W: 1, H: 1}, {W: 2, H: 1}, {X: 1, Y: 1, W: 1, H: 1}, {W: p.W, H: p.H}, {}, {X: -1, W: 1, H: 1}, {X: math.MaxInt, W: math.MaxInt, H: 1}} {
			if b, e := plane.Cut(p, r); len(b) != 0 || e != api.ErrArg {
				t.Errorf("%d: Cut(%v): %v, %d", i, r, b, e)
			}
			for _, b := range [][]uint8{nil, {}, {1}, {1, 2}, p.Pix} {
				if q, e := plane.Lay(p, r, b); !zero(q) || e != api.ErrArg {
					t.Errorf("%d: Lay(%v): %d by %d, %d", i, r, q.W, q.H, e)
				}
			}
		}
	}
}

// ErrArg of samples too few and too many (P5.2).
func TestLayOfOtherCounts(t *testing.T) {
	d := draws(4)
	p := d.plane(5, 4)
	for w := 1; w <= 5; w++ {
		for h := 1; h <= 4; h++ {
			r := api.Rect{X: 5 - w, Y: 4 - h, W: w, H: h}
			for n := range 30 {
				b := d.samples(n)
				q, e := plane.Lay(p, r, b)
				if n == w*h {
					if c, _ := plane.Cut(q, r); e != api.OK || !slices.Equal(c, b) {
						t.Errorf("%v, %d samples: %v, %d", r, n, c, e)
					}
				} else if !zero(q) || e != api.ErrArg {
					t.Errorf("%v, %d samples: %d by %d, %d", r, n, q.W, q.H, e)
				}
			}
			short, _ := roomy(d.samples(w*h - 1))
			for _, b := range [][]uint8{nil, short, make([]uint8, 1<<20)} {
				if q, e := plane.Lay(p, r, b); !zero(q) || e != api.ErrArg {
					t.Errorf("%v, %d samples: %d by %d, %d", r, len(b), q.W, q.H, e)
				}
			}
		}
	}
}

// What is laid is cut; elsewhere nothing has changed; what is cut and laid again changes nothing (P5.7).
func TestLaidIsCut(t *testing.T) {
	d := draws(7)
	for _, p := range planes() {
		for range 12 {
			r := d.rect(p)
			b := d.samples(r.W * r.H)
			q := must(t)(plane.Lay(p, r, b))
			if c, e := plane.Cut(q, r); !slices.Equal(c, b) || e != api.OK {
				t.Fatalf("%d by %d, %v: what was laid is not cut: %d", p.W, p.H, r, e)
			}
			for i := range p.Pix {
				x, y := i%p.W, i/p.W
				if in := x >= r.X && x < r.X+r.W && y >= r.Y && y < r.Y+r.H; !in && q.Pix[i] != p.Pix[i] {
					t.Fatalf("%d by %d, %v: %d, %d has changed", p.W, p.H, r, x, y)
				}
			}
			c, _ := plane.Cut(p, r)
			if !plane.Same(must(t)(plane.Lay(p, r, c)), p) || !plane.Same(must(t)(plane.Lay(q, r, c)), p) {
				t.Fatalf("%d by %d, %v: what was cut and laid again is another plane", p.W, p.H, r)
			}
		}
	}
}

// The chapter's row of padded planes (P5.3).
func TestPadExamples(t *testing.T) {
	if p, e := plane.Pad(four(), 3, 3); !same(p, ints(3, 3, 1, 2, 2, 3, 4, 4, 3, 4, 4)) || e != 0 {
		t.Errorf("Pad(P, 3, 3): %v, %d", p, e)
	}
	if p, e := plane.Pad(four(), 1, 2); !zero(p) || e != 2 {
		t.Errorf("Pad(P, 1, 2): %v, %d", p, e)
	}
}

// padded tries a size to pad to, one that may be or not.
func padded(t *testing.T, p api.Plane, w, h int) {
	t.Helper()
	q, e := plane.Pad(p, w, h)
	if w < p.W || w > 512 || h < p.H || h > 512 {
		if !zero(q) || e != api.ErrArg {
			t.Errorf("%d by %d: Pad(%d, %d): %d by %d, %d", p.W, p.H, w, h, q.W, q.H, e)
		}
		return
	}
	want := api.Plane{W: w, H: h, Pix: taken(p, api.Rect{W: w, H: h})}
	if !same(q, want) || e != api.OK {
		t.Errorf("%d by %d: Pad(%d, %d): %d by %d, %d", p.W, p.H, w, h, q.W, q.H, e)
	}
}

// Planes of all shapes padded: not at all, one way, both ways, to the end, and to sizes that may not be (P5.3, P5.8).
func TestPad(t *testing.T) {
	for _, p := range planes() {
		l := [][2]int{{p.W, p.H}, {p.W + 1, p.H}, {p.W, p.H + 1}, {p.W + 3, p.H + 2}, {512, p.H}, {p.W, 512}, {p.W - 1, p.H}, {p.W, p.H - 1}, {p.W - 1, 512}, {512, p.H - 1}, {p.W - 1, p.H - 1}, {513, p.H}, {p.W, 513}, {513, 513}, {p.H, p.W}}
		for _, s := range l {
			padded(t, p, s[0], s[1])
		}
		for _, n := range noSides() {
			padded(t, p, n, p.H)
			padded(t, p, p.W, n)
			padded(t, p, n, n)
		}
	}
	padded(t, ints(1, 1, 200), 512, 512)
	d := draws(8)
	for w := -2; w < 20; w++ {
		for h := -2; h < 20; h++ {
			padded(t, d.plane(5, 7), w, h)
		}
	}
}

// ErrArg of planes that may not be, whatever the size (P5.3).
func TestPadOfWrongPlanes(t *testing.T) {
	for i, p := range wrong() {
		for _, s := range [][2]int{{p.W, p.H}, {8, 8}, {512, 512}, {1, 1}, {0, 0}, {-1, 8}, {513, 513}, {math.MaxInt, math.MinInt}} {
			if q, e := plane.Pad(p, s[0], s[1]); !zero(q) || e != api.ErrArg {
				t.Errorf("%d: Pad(%d, %d): %d by %d, %d", i, s[0], s[1], q.W, q.H, e)
			}
		}
	}
}

// Of a padded plane At tells what it tells of the plane itself, everywhere (P5.8).
func TestAtOfPadded(t *testing.T) {
	d := draws(10)
	for _, s := range [][2]int{{1, 1}, {5, 4}, {16, 3}, {18, 16}, {1, 30}} {
		p := d.plane(s[0], s[1])
		for _, more := range [][2]int{{0, 0}, {1, 0}, {0, 1}, {6, 9}, {40, 0}} {
			q := must(t)(plane.Pad(p, p.W+more[0], p.H+more[1]))
			for y := -3; y < q.H+5; y++ {
				for x := -3; x < q.W+5; x++ {
					if v := plane.At(q, x, y); v != plane.At(p, x, y) || v != near(p, x, y) {
						t.Fatalf("%v by %v more: %d, %d: %d and %d", s, more, x, y, v, plane.At(p, x, y))
					}
				}
			}
		}
	}
}
