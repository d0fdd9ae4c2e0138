package motion_test

import (
	"testing"

	"zoetrope/api"
	"zoetrope/motion"
)

func above() way { return ways()[0] }

func left() way { return ways()[1] }

// The chapter's rows of blends (P15.3).
func TestExamplesOfBlends(t *testing.T) {
	hundred := alike(8, 100)
	blendedIs(t, above(), blend{hundred, 2, rect(0, 0, 1, 4), alike(4, 0)}, 56, 100, 69, 100, 81, 100, 94, 100)
	blendedIs(t, left(), blend{hundred, 4, rect(0, 1, 4, 1), alike(4, 200)}, 100, 100, 100, 100, 144, 131, 119, 106)
	noBlend(t, above(), blend{hundred, 2, rect(0, 0, 1, 3), alike(3, 0)})
	noBlend(t, above(), blend{hundred, 2, rect(1, 0, 2, 4), alike(8, 0)})
	noBlend(t, above(), blend{alike(7, 100), 2, rect(0, 0, 1, 4), alike(4, 0)})
}

// Blends worked out by hand, of samples that differ from place to place (P15.3).
func TestBlendsByHand(t *testing.T) {
	own := []uint8{
		1, 2, 3, 4, 5, 6,
		10, 20, 30, 40, 50, 60,
		100, 101, 102, 103, 104, 105,
		200, 210, 220, 230, 240, 250,
		0, 255, 0, 255, 0, 255,
	}
	// 36 20 and 28 64: 2512, 39.25; 36 30 and 28 128: 4664, 72.9
	// 44 101 and 20 0: 4444, 69.4; 44 102 and 20 255: 9588, 149.8
	// 52 210 and 12 1: 10932, 170.8; 52 220 and 12 2: 11464, 179.1
	// 60 255 and 4 3: 15312, 239.25; 60 0 and 4 4: 16, 0.25
	blendedIs(t, above(), blend{own, 6, rect(1, 1, 2, 4), []uint8{64, 128, 0, 255, 1, 2, 3, 4}},
		1, 2, 3, 4, 5, 6,
		10, 39, 73, 40, 50, 60,
		100, 69, 150, 103, 104, 105,
		200, 171, 179, 230, 240, 250,
		0, 239, 0, 255, 0, 255)
	// 36 102 and 28 9: 3924, 61.3; 44 103 and 20 8: 4692, 73.3; 52 104 and 12 7: 5492, 85.8; 60 105 and 4 6: 6324, 98.8
	// 36 220 and 28 0: 7920, 123.75; 44 230 and 20 255: 15220, 237.8; 52 240 and 12 0: 12480, 195; 60 250 and 4 255: 16020, 250.3
	blendedIs(t, left(), blend{own, 6, rect(2, 2, 4, 2), []uint8{9, 8, 7, 6, 0, 255, 0, 255}},
		1, 2, 3, 4, 5, 6,
		10, 20, 30, 40, 50, 60,
		100, 101, 61, 73, 86, 99,
		200, 210, 124, 238, 195, 250,
		0, 255, 0, 255, 0, 255)
}

// What is rounded: at the middle up, just below it down, by every weight (P15.3).
func TestBlendsRounded(t *testing.T) {
	middle := 0
	for i, k := range weights(t, 32) {
		for own := range 256 {
			for _, other := range []int{0, 1, 2, 31, 32, 33, 127, 254, 255} {
				sum := k*own + (64-k)*other
				if sum%64 != 32 && sum%64 != 31 && sum%64 != 33 {
					continue
				}
				want := sum / 64
				if sum%64 >= 32 {
					want++
				}
				if sum%64 == 32 {
					middle++
				}
				b := blend{make([]uint8, 32), 1, rect(0, 0, 1, 32), make([]uint8, 32)}
				b.own[i], b.other[i] = uint8(own), uint8(other)
				if l := blended(t, above(), b); int(l[i]) != want {
					t.Fatalf("Above: %d and %d by %d: %d, want %d", own, other, k, l[i], want)
				}
				b.w, b.r = 32, rect(0, 0, 32, 1)
				if l := blended(t, left(), b); int(l[i]) != want {
					t.Fatalf("Left: %d and %d by %d: %d, want %d", own, other, k, l[i], want)
				}
			}
		}
	}
	if middle < 100 {
		t.Errorf("%d at the middle", middle)
	}
}

// Every two samples by every weight there is (P15.3).
func TestEveryBlend(t *testing.T) {
	for own := range 256 {
		for from := 0; from < 256; from += 64 {
			b := blend{alike(64*32, uint8(own)), 64, rect(0, 0, 64, 32), nil}
			for range 32 {
				for other := range 64 {
					b.other = append(b.other, uint8(from+other))
				}
			}
			asModelBlend(t, above(), b)
			b = blend{alike(64*32, uint8(own)), 32, rect(0, 0, 32, 64), nil}
			for other := range 64 {
				b.other = append(b.other, alike(32, uint8(from+other))...)
			}
			asModelBlend(t, left(), b)
		}
	}
}

// Both ends of what a sample may be (P15.3).
func TestBlendsOfBothEnds(t *testing.T) {
	// 28 255 is 7140, 111.6; 20 255 is 5100, 79.7; 12 255 is 3060, 47.8; 4 255 is 1020, 15.9
	blendedIs(t, above(), blend{alike(4, 0), 1, rect(0, 0, 1, 4), alike(4, 255)}, 112, 80, 48, 16)
	blendedIs(t, left(), blend{alike(4, 0), 4, rect(0, 0, 4, 1), alike(4, 255)}, 112, 80, 48, 16)
	// 36 255 is 9180, 143.4; 44 255 is 11220, 175.3; 52 255 is 13260, 207.2; 60 255 is 15300, 239.1
	blendedIs(t, above(), blend{alike(4, 255), 1, rect(0, 0, 1, 4), alike(4, 0)}, 143, 175, 207, 239)
	blendedIs(t, left(), blend{alike(4, 255), 4, rect(0, 0, 4, 1), alike(4, 0)}, 143, 175, 207, 239)
	for _, k := range ways() {
		for n := 4; n <= 32; n++ {
			for _, v := range []uint8{0, 255} {
				b := blend{own: alike(64*64, v), w: 64}
				*k.depth(&b.r), *k.along(&b.r) = n, 64
				b.other = alike(64*n, v)
				blendedIs(t, k, b, b.own...)
				b.other = alike(64*n, 255-v)
				asModelBlend(t, k, b)
			}
		}
	}
}

// Own samples of every number of rows and columns from 1 to 64 that has room, blended as a whole, and at each corner (P15.3).
func TestSizesOfOwn(t *testing.T) {
	d := draws(71)
	for _, k := range ways() {
		for side := 4; side <= 64; side++ {
			for _, other := range []int{1, 2, 3, 4, 5, 31, 32, 33, 63, 64} {
				var whole api.Rect
				*k.depth(&whole), *k.along(&whole) = side, other
				own := d.samples(side * other)
				if side <= 32 {
					asModelBlend(t, k, blend{own, whole.W, whole, d.samples(len(own))})
				}
				var part api.Rect
				*k.depth(&part), *k.along(&part) = min(side, 4+d.below(29)), 1+d.below(other)
				for corner := range 4 {
					part.X, part.Y = 0, 0
					if corner%2 == 1 {
						part.X = whole.W - part.W
					}
					if corner/2 == 1 {
						part.Y = whole.H - part.H
					}
					asModelBlend(t, k, blend{own, whole.W, part, d.samples(part.W * part.H)})
				}
			}
		}
	}
	// one row, and one column, alone
	asModelBlend(t, left(), blend{d.samples(64), 64, rect(40, 0, 24, 1), d.samples(24)})
	asModelBlend(t, above(), blend{d.samples(64), 1, rect(0, 40, 1, 24), d.samples(24)})
}

// Every place of a rectangle among own samples, of every depth (P15.3).
func TestPlacesOfBlends(t *testing.T) {
	d := draws(72)
	own := d.samples(36 * 36)
	for _, k := range ways() {
		for n := 4; n <= 32; n++ {
			var r api.Rect
			*k.depth(&r), *k.along(&r) = n, d.from(1, 36)
			for range 6 {
				r.X, r.Y = d.below(36-r.W+1), d.below(36-r.H+1)
				asModelBlend(t, k, blend{own, 36, r, d.samples(r.W * r.H)})
			}
		}
	}
}

// Blends of any kind (P15.3).
func TestBlends(t *testing.T) {
	d := draws(73)
	for range 600 {
		for _, k := range ways() {
			asModelBlend(t, k, d.blend(k))
		}
	}
}

// One other sample goes into just one sample, at its place, by its weight (P15.3).
func TestOneOther(t *testing.T) {
	d := draws(74)
	for _, k := range ways() {
		for range 20 {
			b := d.blend(k)
			before := blended(t, k, b)
			for range 20 {
				at := d.below(len(b.other))
				x, y := at%b.r.W, at/b.r.W
				was := b.other[at]
				b.other[at] ^= uint8(1 + d.below(255))
				m := weight(*k.depth(&b.r), k.index(x, y))
				place := (b.r.Y+y)*b.w + b.r.X + x
				want := rounded(m*int(b.own[place])+(64-m)*int(b.other[at]), 64)
				for i, v := range blended(t, k, b) {
					if i == place && int(v) != want || i != place && v != before[i] {
						t.Fatalf("%s of rows of %d, %+v: %d at %d, another sample at %d", k.name, b.w, b.r, v, i, place)
					}
				}
				b.other[at] = was
			}
		}
	}
}

// Above and Left, one behind the other, as a block with both neighbours is blended: each takes what the other has made (P15.3).
func TestBothBlends(t *testing.T) {
	d := draws(75)
	for range 50 {
		own := d.samples(16 * 16)
		upper, side := rect(8*d.below(2), 0, 8, 8), rect(0, 8*d.below(2), 8, 8)
		a, b := d.samples(64), d.samples(64)
		l, e := motion.Above(own, 16, upper, a)
		if e != api.OK {
			t.Fatal(e)
		}
		asModelBlend(t, left(), blend{l, 16, side, b})
	}
}
