package subpel_test

import (
	"slices"
	"testing"

	"zoetrope/api"
	"zoetrope/subpel"
)

// A block that begins at a sample is the samples there, of what is nearest where there are none, whatever the kind (P14.3).
func TestAtASample(t *testing.T) {
	d := draws(21)
	for _, p := range planes() {
		for range 40 {
			b := d.block(p)
			b.x, b.y = b.x&^15, b.y&^15
			var want []uint8
			for y := range b.h {
				for x := range b.w {
					want = append(want, uint8(near(p, b.x/16+x, b.y/16+y)))
				}
			}
			for _, b.kind = range kinds() {
				fetchedIs(t, p, b, want...)
			}
		}
	}
	// every sample there is
	p := samples(16, 16)
	for v := range 256 {
		p.Pix = append(p.Pix, uint8(v))
	}
	for _, kind := range kinds() {
		fetchedIs(t, p, block{0, 0, 16, 16, kind}, p.Pix...)
	}
}

// At a sample of a row, or of a column, only the other way is summed (P14.3).
func TestAtASampleOneWay(t *testing.T) {
	d := draws(22)
	p := d.plane(16, 16)
	for _, kind := range kinds() {
		for f := range 16 {
			for row := range 16 {
				one := api.Plane{W: 16, H: 1, Pix: p.Pix[16*row : 16*row+16]}
				want := fetched(t, one, block{48 + f, 0, 8, 4, kind})[:8]
				if got := fetched(t, p, block{48 + f, 16 * row, 8, 4, kind})[:8]; !slices.Equal(got, want) {
					t.Fatalf("kind %d, row %d at %d: %v, want %v", kind, row, f, got, want)
				}
			}
		}
	}
}

// A plane that is all alike gives blocks that are all alike: all samples, all places, all kinds (P14.3).
func TestAllAlike(t *testing.T) {
	d := draws(23)
	for v := range 256 {
		p := api.Plane{W: 9, H: 7, Pix: alike(63, uint8(v))}
		for place := range 256 {
			for _, kind := range kinds() {
				fetchedIs(t, p, block{place % 16, place / 16, 4, 4, kind}, alike(16, uint8(v))...)
			}
		}
		for range 5 {
			b := d.block(p)
			fetchedIs(t, p, b, alike(b.w*b.h, uint8(v))...)
		}
	}
}

// turned is a list of rows of w samples, turned about from left to right.
func turned(l []uint8, w int) []uint8 {
	out := slices.Clone(l)
	for row := range slices.Chunk(out, w) {
		slices.Reverse(row)
	}
	return out
}

// upset is a list of rows of w samples, turned about from above to below.
func upset(l []uint8, w int) []uint8 {
	out := slices.Clone(l)
	slices.Reverse(out)
	return turned(out, w)
}

// about asks for a block of a plane turned about: from left to right, from above to below, and both.
func about(t *testing.T, p api.Plane, b block) {
	t.Helper()
	want := fetched(t, p, b)
	x, y := 16*(p.W-b.w)-b.x, 16*(p.H-b.h)-b.y
	across := api.Plane{W: p.W, H: p.H, Pix: turned(p.Pix, p.W)}
	down := api.Plane{W: p.W, H: p.H, Pix: upset(p.Pix, p.W)}
	both := api.Plane{W: p.W, H: p.H, Pix: upset(across.Pix, p.W)}
	fetchedIs(t, across, block{x, b.y, b.w, b.h, b.kind}, turned(want, b.w)...)
	fetchedIs(t, down, block{b.x, y, b.w, b.h, b.kind}, upset(want, b.w)...)
	fetchedIs(t, both, block{x, y, b.w, b.h, b.kind}, upset(turned(want, b.w), b.w)...)
}

// Left and right, above and below are treated alike, at all places by all kinds (P14.4).
func TestTurnedAbout(t *testing.T) {
	d := draws(24)
	for _, p := range []api.Plane{d.plane(13, 10), d.sharp(10, 13)} {
		for _, kind := range kinds() {
			for place := range 256 {
				about(t, p, block{3*16 + place%16, 2*16 + place/16, 6, 5, kind})
				about(t, p, block{-2*16 + place%16, 9*16 + place/16, 4, 7, kind})
			}
		}
	}
}

// So it is of planes of all shapes, over their edges and beyond, as far out as blocks may begin on both sides (P14.4).
func TestTurnedAboutAnywhere(t *testing.T) {
	d := draws(25)
	for _, p := range planes() {
		many := 30
		if len(p.Pix) > 1<<16 {
			many = 4
		}
		for range many {
			about(t, p, d.block(p))
		}
	}
	p := d.plane(64, 64) // of a block as great as it the place is turned about 0
	for _, x := range []int{far20, -far20, far20 - 1, 1 - far20} {
		about(t, p, block{x, 5, 64, 64, d.below(3)})
		about(t, p, block{5, x, 64, 64, d.below(3)})
		about(t, p, block{x, -x, 64, 64, d.below(3)})
	}
}

// part is what lies in a block of rows of w, a columns to the right and b rows down.
func part(l []uint8, w, a, b int, size block) []uint8 {
	var out []uint8
	for j := range size.h {
		out = append(out, l[(b+j)*w+a:][:size.w]...)
	}
	return out
}

// A block's part is a block: every part of some (P14.5).
func TestEveryPart(t *testing.T) {
	d := draws(26)
	p := d.plane(11, 12)
	for _, kind := range kinds() {
		whole := block{d.below(100) - 50, d.below(100) - 50, 9, 8, kind}
		l := fetched(t, p, whole)
		for w := 4; w <= whole.w; w++ {
			for h := 4; h <= whole.h; h++ {
				for a := range whole.w - w + 1 {
					for b := range whole.h - h + 1 {
						o := block{whole.x + 16*a, whole.y + 16*b, w, h, kind}
						fetchedIs(t, p, o, part(l, whole.w, a, b, o)...)
					}
				}
			}
		}
	}
}

// So it is with greater ones, anywhere, of planes of all shapes (P14.5).
func TestParts(t *testing.T) {
	d := draws(27)
	for _, p := range planes() {
		for range 10 {
			whole := d.block(p)
			whole.w, whole.h = 40+d.below(25), 40+d.below(25)
			l := fetched(t, p, whole)
			for range 10 {
				w, h := 4+d.below(whole.w-3), 4+d.below(whole.h-3)
				a, b := d.below(whole.w-w+1), d.below(whole.h-h+1)
				o := block{whole.x + 16*a, whole.y + 16*b, w, h, whole.kind}
				fetchedIs(t, p, o, part(l, whole.w, a, b, o)...)
			}
		}
	}
}

// Samples of bilinear blocks lie between the least and the greatest sample of the plane (P14.6).
func TestBilinearBetween(t *testing.T) {
	d := draws(28)
	l := planes()
	for _, r := range [][2]int{{0, 1}, {254, 255}, {100, 101}, {90, 110}, {3, 200}} {
		l = append(l, api.Plane{W: 14, H: 12, Pix: d.samples(168, r[0], r[1])})
	}
	for _, p := range l {
		least, greatest := slices.Min(p.Pix), slices.Max(p.Pix)
		for place := range 256 {
			b := d.block(p)
			b.x, b.y, b.kind = b.x&^15+place%16, b.y&^15+place/16, api.FilterBilinear
			for i, v := range fetched(t, p, b) {
				if v < least || v > greatest {
					t.Fatalf("%d by %d, %+v: %d at %d, where samples are from %d to %d", p.W, p.H, b, v, i, least, greatest)
				}
			}
		}
	}
}

// A sample of a bilinear block lies between the four about it, not only between all (P14.6).
func TestBilinearBetweenFour(t *testing.T) {
	d := draws(29)
	p := d.plane(12, 12)
	for place := range 256 {
		f, g := place%16, place/16
		for i, v := range fetched(t, p, block{f, g, 12, 12, api.FilterBilinear}) {
			x, y := i%12, i/12
			four := []int{near(p, x, y), near(p, x+1, y), near(p, x, y+1), near(p, x+1, y+1)}
			if int(v) < slices.Min(four) || int(v) > slices.Max(four) {
				t.Fatalf("%d, %d: %d between %v", f, g, v, four)
			}
		}
	}
}

// All sums of rows lie between -2^13 and 2^13: planes made of the worst samples of each place show just what such sums give (P14.6).
func TestWorstSums(t *testing.T) {
	for _, kind := range kinds() {
		for f := range 16 {
			taps, e := subpel.Taps(kind, f)
			if e != api.OK {
				t.Fatal(e)
			}
			for _, flip := range []bool{false, true} {
				p := samples(8, 8, make([]uint8, 64)...)
				for i := range p.Pix {
					// rows in turn: as great as can be where a column's tap is above 0, as small as can be elsewhere
					if (taps[i%8] > 0) == (taps[i/8] > 0) != flip {
						p.Pix[i] = 255
					}
				}
				for j := range 8 {
					m := 0
					for k, tap := range taps {
						m += tap * int(p.Pix[8*j+k])
					}
					if m = rounded(m, 8); m < -1<<13 || m > 1<<13 {
						t.Fatalf("kind %d at %d: %d", kind, f, m)
					}
				}
				b := block{3*16 + f, 3*16 + f, 4, 4, kind}
				asModel(t, p, b)
				for _, g := range []int{0, 5, 8, 11} {
					asModel(t, p, block{b.x, 3*16 + g, 4, 4, kind})
				}
			}
		}
	}
}
