package motion_test

import (
	"math"
	"slices"
	"testing"

	"zoetrope/api"
	"zoetrope/plane"
)

// usual is a block that there is.
func usual() move { return move{0, rect(3, 2, 4, 4), vec(5, -6), 0} }

// wrongFrames are frames that may not be, for each of the reasons that plane.Whole has, in each of the planes.
func wrongFrames() []api.Frame {
	d := draws(51)
	with := func(n int, p api.Plane) api.Frame {
		f := d.frame(20, 24)
		f.P[n] = p
		return f
	}
	l := []api.Frame{{}}
	// one plane alone, and one that is missing
	for n := range 3 {
		var alone api.Frame
		alone.P[n] = d.frame(20, 24).P[n]
		l = append(l, with(n, api.Plane{}), alone)
	}
	for n, side := range [3][2]int{{20, 24}, {10, 12}, {10, 12}} {
		w, h := side[0], side[1]
		// sides that are not those of the others
		for _, s := range [][2]int{{w + 2, h}, {w - 2, h}, {w, h + 2}, {w, h - 2}, {w + 1, h}, {w, h + 1}, {h, w}, {2 * w, 2 * h}, {w / 2, h / 2}, {w - 1, h}, {w, h - 1}} {
			l = append(l, with(n, d.plane(s[0], s[1])))
		}
		// samples too few, too many, none
		for _, many := range []int{0, 1, w*h - w, w*h - 1, w*h + 1, w*h + w, 2 * w * h} {
			l = append(l, with(n, api.Plane{W: w, H: h, Pix: make([]uint8, many)}))
		}
		for _, far := range append([]int{0, -1, -w, 513}, far()...) {
			l = append(l, with(n, api.Plane{W: far, H: h, Pix: make([]uint8, w*h)}), with(n, api.Plane{W: w, H: far, Pix: make([]uint8, w*h)}))
		}
	}
	// whole frames that are odd, too small, too great
	for _, s := range [][2]int{{14, 16}, {16, 14}, {15, 16}, {16, 15}, {17, 16}, {16, 17}, {255, 16}, {16, 255}, {257, 16}, {16, 257}, {258, 16}, {16, 258}, {258, 258}, {2, 2}, {1, 1}, {512, 512}} {
		f := d.frame(s[0], s[1])
		l = append(l, f)
		if s[0]%2+s[1]%2 > 0 { // halves that are rounded up
			f.P[1], f.P[2] = d.plane((s[0]+1)/2, (s[1]+1)/2), d.plane((s[0]+1)/2, (s[1]+1)/2)
			l = append(l, f)
		}
	}
	// all three planes of one size
	p := d.plane(16, 16)
	return append(l, api.Frame{P: [3]api.Plane{p, p, p}})
}

// Frames that may not be, whatever else is asked, and whichever plane (P15.1).
func TestWrongFrames(t *testing.T) {
	for i, f := range wrongFrames() {
		if plane.Whole(f) == api.OK {
			t.Fatalf("%d may be", i)
		}
		for n := range 3 {
			for _, kind := range kinds() {
				noSingle(t, f, move{n, rect(0, 0, 4, 4), vec(0, 0), kind})
				noSingle(t, f, move{n, rect(3, 2, 64, 5), vec(5, -6), kind})
			}
		}
	}
}

// Numbers of planes that are none (P15.1).
func TestWrongPlanes(t *testing.T) {
	d := draws(52)
	for _, f := range []api.Frame{slope(), d.frame(256, 256)} {
		for _, n := range noPlanes() {
			for _, kind := range kinds() {
				noSingle(t, f, move{n, rect(0, 0, 4, 4), vec(0, 0), kind})
				noSingle(t, f, move{n, rect(farthest, 8, 64, 64), vec(-api.MaxVec, 8), kind})
			}
		}
		for n := -300; n < 300; n++ {
			m := usual()
			if m.n = n; 0 <= n && n <= 2 {
				single(t, f, m)
			} else {
				noSingle(t, f, m)
			}
		}
	}
}

// Rectangles that begin where none may, on either place and on both, of every plane (P15.1).
func TestWrongPlaces(t *testing.T) {
	f := slope()
	for _, x := range noPlaces() {
		for n := range 3 {
			for _, o := range []int{0, 3, farthest, x} {
				noSingle(t, f, move{n, rect(x, o, 4, 4), vec(0, 0), 0})
				noSingle(t, f, move{n, rect(o, x, 4, 4), vec(0, 0), 0})
				noSingle(t, f, move{n, rect(x, o, 64, 64), vec(-api.MaxVec, api.MaxVec), 2})
				noSingle(t, f, move{n, rect(o, x, 64, 4), vec(api.MaxVec, -api.MaxVec), 1})
			}
		}
	}
	for x := -40; x < farthest+40; x++ {
		for _, m := range []move{{0, rect(x, 5, 4, 4), vec(8, 8), 0}, {1, rect(5, x, 4, 4), vec(8, 8), 2}} {
			if 0 <= x && x <= farthest {
				single(t, f, m)
			} else {
				noSingle(t, f, m)
			}
		}
	}
}

// Rectangles of sizes that none may have, on either side and on both (P15.1).
func TestWrongSides(t *testing.T) {
	f := slope()
	for _, w := range noSides() {
		for n := range 3 {
			for _, o := range []int{4, 16, 64, w} {
				noSingle(t, f, move{n, rect(0, 0, w, o), vec(0, 0), 0})
				noSingle(t, f, move{n, rect(0, 0, o, w), vec(0, 0), 0})
				noSingle(t, f, move{n, rect(farthest, 5, w, o), vec(5, 6), 1})
			}
		}
	}
	for w := -3; w < 75; w++ {
		for h := -3; h < 75; h++ {
			m := move{1, rect(2, 3, w, h), vec(16, 0), 0}
			if 4 <= w && w <= 64 && 4 <= h && h <= 64 {
				if w < 6 || w > 62 || h < 6 || h > 62 {
					single(t, f, m)
				}
			} else {
				noSingle(t, f, m)
			}
		}
	}
}

// Vectors beyond both ends, in either part and in both (P15.1).
func TestWrongVectors(t *testing.T) {
	f := slope()
	for _, x := range noMoves() {
		for n := range 3 {
			for _, o := range []int{0, 8, -api.MaxVec, api.MaxVec, x} {
				for _, kind := range kinds() {
					noSingle(t, f, move{n, rect(3, 2, 4, 4), vec(x, o), kind})
					noSingle(t, f, move{n, rect(3, 2, 4, 4), vec(o, x), kind})
				}
				noSingle(t, f, move{n, rect(farthest, 0, 64, 64), vec(x, o), 0})
			}
		}
	}
	for x := -api.MaxVec - 50; x <= api.MaxVec+50; x++ {
		if x == -api.MaxVec+50 {
			x = api.MaxVec - 50
		}
		for _, v := range []api.Vec{{X: x}, {Y: x}, {X: x, Y: x}, {X: x, Y: -7}} {
			if -api.MaxVec <= x && x <= api.MaxVec {
				single(t, f, move{0, rect(3, 2, 4, 4), v, 0})
			} else {
				noSingle(t, f, move{0, rect(3, 2, 4, 4), v, 0})
			}
		}
	}
}

// Kinds that are none (P15.1).
func TestWrongKinds(t *testing.T) {
	f := slope()
	for _, kind := range noKinds() {
		for n := range 3 {
			noSingle(t, f, move{n, rect(0, 0, 4, 4), vec(0, 0), kind})
			noSingle(t, f, move{n, rect(3, 2, 64, 64), vec(5, -6), kind})
		}
	}
	for kind := -300; kind < 300; kind++ {
		m := usual()
		if m.kind = kind; 0 <= kind && kind <= 2 {
			single(t, f, m)
		} else {
			noSingle(t, f, m)
		}
	}
}

// Where several things are wrong one error is told, and nothing beside it: all that are looked for, from the left, are ErrArg (P15.1).
func TestSeveralWrong(t *testing.T) {
	right := 0
	ends := []int{math.MaxInt, math.MinInt}
	for i, f := range []api.Frame{slope(), {}, {P: [3]api.Plane{{W: 16, H: 16, Pix: make([]uint8, 256)}}}} {
		for _, n := range append([]int{0, 3, -1}, ends...) {
			for _, x := range append([]int{0, -1, farthest + 1}, ends...) {
				for _, w := range append([]int{4, 3, 65}, ends...) {
					for _, v := range append([]int{0, api.MaxVec + 1}, ends...) {
						for _, kind := range append([]int{2, 3, -1}, ends...) {
							for _, m := range []move{{n, rect(x, 5, w, 8), vec(v, 9), kind}, {n, rect(5, x, 8, w), vec(9, v), kind}, {n, rect(x, 5, 8, w), vec(9, v), kind}, {n, rect(5, x, w, 8), vec(v, 9), kind}, {n, rect(x, x, w, w), vec(v, v), kind}} {
								if i == 0 && n == 0 && x == 0 && w == 4 && v == 0 && kind == 2 {
									single(t, f, m)
									right++
								} else {
									noSingle(t, f, m)
								}
							}
						}
					}
				}
			}
		}
	}
	if right != 5 {
		t.Errorf("%d calls are right, want 5", right)
	}
}

// usualBlend is one of a way that there is: 5 by 6 (or 6 by 5) of own samples, 4 deep and 2 along at 1, 1.
func usualBlend(k way) blend {
	b := blend{own: alike(30, 100), w: 5, r: rect(1, 1, 0, 0), other: alike(8, 7)}
	if *k.depth(&b.r), *k.along(&b.r) = 4, 2; b.r.W == 4 {
		b.w = 6
	}
	return b
}

// Own samples of every number from none on, in rows of every w: too few, too many, no multiple of w, just as many as 1 to 64 rows (P15.3).
func TestWrongOwn(t *testing.T) {
	for _, k := range ways() {
		for _, w := range []int{4, 5, 7, 63, 64} {
			for _, many := range []int{0, 1, w - 1, w, w + 1, 3*w - 1, 3 * w, 4*w - 1, 4 * w, 4*w + 1, 5*w - 1, 5 * w, 63 * w, 64*w - 1, 64 * w, 64*w + 1, 65*w - 1, 65 * w, 65*w + 1, 66 * w, 128 * w, 512 * w, 513 * w} {
				for _, rows := range []int{1, 4} {
					b := blend{alike(many, 9), w, rect(0, 0, 4, rows), alike(4*rows, 1)}
					if rows == 1 && k.name == "Above" {
						b.r, b.other = rect(0, 0, 1, 4), alike(4, 1)
					}
					if many%w == 0 && many/w >= b.r.H && many/w <= 64 {
						asModelBlend(t, k, b)
					} else {
						noBlend(t, k, b)
					}
				}
			}
		}
		b := usualBlend(k)
		for many := range 100 {
			b.own = alike(many, 100)
			if rows := many / b.w; many%b.w == 0 && rows >= b.r.Y+b.r.H && rows <= 64 {
				asModelBlend(t, k, b)
			} else {
				noBlend(t, k, b)
			}
		}
		b.own = nil
		noBlend(t, k, b)
	}
}

// Rows of w samples, w being none that may be: 0, below 0, above 64, and as far out as numbers go (P15.3).
func TestWrongWidths(t *testing.T) {
	for _, k := range ways() {
		for _, w := range append([]int{0, -1, -2, -5, -6, -64, 65, 66, 68, 128, 256, 512, 513, 1024, 1 << 16}, far()...) {
			for _, many := range []int{0, 4, 16, 30, 64, 65 * 4, 65 * 64, 66 * 4, 128 * 32, 512 * 4, 1 << 18} {
				for _, r := range []api.Rect{rect(0, 0, 4, 4), rect(0, 0, 4, 5), rect(0, 0, 5, 4), rect(1, 2, 4, 4)} {
					noBlend(t, k, blend{make([]uint8, many), w, r, make([]uint8, r.W*r.H)})
				}
			}
		}
		// one row, or one column, of every length
		for w := range 70 {
			r := rect(0, 0, 4, 4)
			*k.along(&r) = 1
			b := blend{alike(w*r.H, 50), w, r, alike(4, 60)}
			if r.W <= w && w <= 64 {
				asModelBlend(t, k, b)
			} else {
				noBlend(t, k, b)
			}
		}
	}
}

// inside tells whether n places from at on, one of them at least, are among the first end ones; what is far away is told ahead of the sum, which could leave the range.
func inside(at, n, end int) bool {
	if at < 0 || at > end || n < 1 || n > end {
		return false
	}
	return at+n <= end
}

// Rectangles within at each corner and edge, as great as own, just beyond on each side, with X, Y, W or H below 0, 0, and as far out as numbers go (P15.3).
func TestRectanglesWithin(t *testing.T) {
	d := draws(53)
	const w, rows = 9, 8
	own := d.samples(w * rows)
	few := []int{-9, -4, -1, 0, 1, 2, 3, 4, 5, 6, 7, 8, 9, 10, 12, 16, 33}
	for _, k := range ways() {
		right := 0
		for _, x := range few {
			for _, y := range few {
				for _, rw := range few {
					for _, rh := range few {
						b := blend{own: own, w: w, r: rect(x, y, rw, rh)}
						n := *k.depth(&b.r)
						if inside(x, rw, w) && inside(y, rh, rows) && n >= 4 && n <= 32 {
							b.other = d.samples(rw * rh)
							asModelBlend(t, k, b)
							right++
							continue
						}
						noBlend(t, k, b)
						b.other = make([]uint8, max(0, rw*rh))
						noBlend(t, k, b)
					}
				}
			}
		}
		if right < 100 {
			t.Errorf("%s: %d rectangles lie within", k.name, right)
		}
	}
}

// One number of a rectangle as far out as numbers go, or two that come to something small together (P15.3).
func TestRectanglesFarOut(t *testing.T) {
	for _, k := range ways() {
		right := usualBlend(k)
		asModelBlend(t, k, right)
		for _, n := range append([]int{-1, -2, -4, 65, 512, 1 << 16}, far()...) {
			for i := range 4 {
				b := right
				part := [4]*int{&b.r.X, &b.r.Y, &b.r.W, &b.r.H}
				*part[i] = n
				noBlend(t, k, b)
				b.other = nil
				noBlend(t, k, b)
				// whose sum with the other part wraps round
				*part[(i+2)%4] = 5 - n
				noBlend(t, k, b)
				b.other = right.other
				noBlend(t, k, b)
				*part[(i+2)%4] = n
				noBlend(t, k, b)
			}
			b := right
			b.r = rect(n, n, n, n)
			noBlend(t, k, b)
		}
		// a product of sides that wraps round to as many samples as there are
		for _, r := range []api.Rect{rect(0, 0, 1<<(intBits-3), 8), rect(0, 0, 8, 1<<(intBits-3)), rect(0, 0, 1<<(intBits-2), 4), rect(0, 0, 4, 1<<(intBits-2)), rect(0, 0, 32, 1<<(intBits-5))} {
			b := right
			b.r, b.other = r, nil
			noBlend(t, k, b)
		}
	}
}

// How deep a rectangle may be: from 4 to 32, where own would have room for more (P15.3).
func TestDepths(t *testing.T) {
	d := draws(54)
	own := d.samples(64 * 64)
	for _, k := range ways() {
		for n := -2; n <= 66; n++ {
			for _, along := range []int{1, 2, 3, 4, 31, 32, 33, 63, 64} {
				b := blend{own: own, w: 64}
				*k.depth(&b.r), *k.along(&b.r) = n, along
				b.other = d.samples(max(0, n*along))
				if 4 <= n && n <= 32 {
					asModelBlend(t, k, b)
				} else {
					noBlend(t, k, b)
				}
			}
		}
		for _, n := range noDepths() {
			b := usualBlend(k)
			*k.depth(&b.r) = n
			noBlend(t, k, b)
		}
	}
}

// Other samples that are too few, too many, none (P15.3).
func TestWrongOther(t *testing.T) {
	d := draws(55)
	for _, k := range ways() {
		for range 40 {
			b := d.blend(k)
			asModelBlend(t, k, b)
			many := b.r.W * b.r.H
			room := d.samples(4 * many)
			for _, n := range []int{0, 1, many - b.r.W, many - 1, many + 1, many + b.r.H, 2 * many, len(b.own)} {
				if n != many && n <= len(room) && n >= 0 {
					b.other = room[:n]
					noBlend(t, k, b)
					b.other = slices.Clip(room[:n])
					noBlend(t, k, b)
				}
			}
			b.other = nil
			noBlend(t, k, b)
		}
		b := usualBlend(k)
		for n := range 40 {
			if b.other = make([]uint8, n); n == 8 {
				asModelBlend(t, k, b)
			} else {
				noBlend(t, k, b)
			}
		}
	}
}

// Where several things are wrong one error is told, and nothing beside it (P15.3).
func TestSeveralWrongOfBlends(t *testing.T) {
	for _, k := range ways() {
		right := 0
		good := usualBlend(k)
		for i, own := range [][]uint8{good.own, nil, good.own[:29], make([]uint8, 65*30)} {
			for j, w := range []int{good.w, 0, -1, 65, math.MaxInt, math.MinInt} {
				for l, r := range []api.Rect{good.r, {}, rect(0, 0, 3, 3), rect(-1, 1, 4, 4), rect(math.MaxInt, math.MaxInt, math.MaxInt, math.MaxInt), rect(math.MinInt, math.MinInt, math.MinInt, math.MinInt)} {
					for m, other := range [][]uint8{good.other, nil, good.other[:7], make([]uint8, 9)} {
						b := blend{own, w, r, other}
						if i+j+l+m == 0 {
							asModelBlend(t, k, b)
							right++
						} else {
							noBlend(t, k, b)
						}
					}
				}
			}
		}
		if right != 1 {
			t.Errorf("%s: %d calls are right, want 1", k.name, right)
		}
	}
}
