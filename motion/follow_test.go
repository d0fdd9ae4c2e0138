package motion_test

import (
	"slices"
	"testing"

	"zoetrope/api"
	"zoetrope/motion"
)

// By the vector 0 a block is what stands there, of what is nearest where there is nothing, whatever the filter (P15.5).
func TestNotMoved(t *testing.T) {
	d := draws(81)
	for _, f := range frames() {
		for n, p := range f.P {
			rects := []api.Rect{rect(0, 0, 4, 4), rect(0, 0, min(p.W, 64), min(p.H, 64)), rect(p.W-4, p.H-4, 4, 4), rect(p.W-1, p.H-2, 9, 8), rect(p.W, 0, 5, 6), rect(0, p.H, 6, 5), rect(farthest, farthest, 64, 64), rect(p.W-3, 1, 64, 4)}
			for range 10 {
				rects = append(rects, rect(d.below(p.W+9), d.below(p.H+9), d.from(4, 64), d.from(4, 64)))
			}
			for _, r := range rects {
				for _, kind := range kinds() {
					singleIs(t, f, move{n, r, vec(0, 0), kind}, standing(p, r)...)
				}
			}
		}
	}
}

// By a vector of whole samples a block is what stands so much further on: every number of samples that a vector has, each way and both, of every plane (P15.5).
func TestMovedByWholeSamples(t *testing.T) {
	d := draws(82)
	f := d.frame(256, 256)
	for n, p := range f.P {
		scale := 8
		if n > 0 {
			scale = 16
		}
		most := api.MaxVec / scale
		for by := -most; by <= most; by++ {
			x, y := d.below(400), d.below(400)
			o := d.from(-most, most)
			kind := d.below(3)
			singleIs(t, f, move{n, rect(x, y, 5, 4), vec(by*scale, 0), kind}, standing(p, rect(x+by, y, 5, 4))...)
			singleIs(t, f, move{n, rect(x, y, 4, 5), vec(0, by*scale), kind}, standing(p, rect(x, y+by, 4, 5))...)
			singleIs(t, f, move{n, rect(x, y, 6, 4), vec(by*scale, o*scale), kind}, standing(p, rect(x+by, y+o, 6, 4))...)
		}
	}
	// of colour a vector of 8 is half a sample, which no filter takes for a whole one
	g := d.frame(32, 32)
	for n := 1; n < 3; n++ {
		for _, kind := range kinds() {
			l := single(t, g, move{n, rect(4, 4, 8, 8), vec(8, 0), kind})
			for by := range 2 {
				if slices.Equal(l, standing(g.P[n], rect(4+by, 4, 8, 8))) {
					t.Errorf("plane %d, kind %d: 8 are %d samples", n, kind, by)
				}
			}
		}
	}
}

// A block at another place is the block moved there: places and vectors are of one kind (P15.5).
func TestPlacesAndVectors(t *testing.T) {
	d := draws(83)
	for _, f := range frames() {
		for range 20 {
			m := d.move(f)
			scale := 8
			if m.n > 0 {
				scale = 16
			}
			by := d.from(1, 20)
			o := m
			o.r.X, o.v.X = m.r.X+by, m.v.X-by*scale
			singleIs(t, f, o, single(t, f, m)...)
			o = m
			o.r.Y, o.v.Y = m.r.Y+by, m.v.Y-by*scale
			singleIs(t, f, o, single(t, f, m)...)
		}
	}
}

// A frame whose planes are all alike gives such blocks, wherever they are moved (P15.5).
func TestAllAlike(t *testing.T) {
	d := draws(84)
	for v := range 256 {
		f := api.Frame{P: [3]api.Plane{{W: 16, H: 18, Pix: alike(288, uint8(v))}, {W: 8, H: 9, Pix: alike(72, uint8(255-v))}, {W: 8, H: 9, Pix: alike(72, uint8(v/2))}}}
		for n, p := range f.P {
			for range 4 {
				m := d.move(f)
				m.n = n
				singleIs(t, f, m, alike(m.r.W*m.r.H, p.Pix[0])...)
			}
		}
	}
}

// between tells whether v lies between a and b, either way round.
func between(v, a, b uint8) bool { return min(a, b) <= v && v <= max(a, b) }

// What is paired lies between both, of two that are the same it is that one, and neither is asked which one it is (P15.6).
func TestPairBetween(t *testing.T) {
	for a := range 256 {
		one := alike(256, uint8(a))
		pairIs(t, one, one, one...)
		var all []uint8
		for b := range 256 {
			all = append(all, uint8(b))
		}
		l, e := motion.Pair(one, all)
		o, f := motion.Pair(all, one)
		if e != api.OK || f != api.OK || !slices.Equal(l, o) {
			t.Fatalf("%d: either way round another", a)
		}
		for b, v := range l {
			if !between(v, uint8(a), uint8(b)) {
				t.Errorf("%d and %d: %d", a, b, v)
			}
		}
		pairIs(t, all, all, all...)
	}
	d := draws(85)
	for range 50 {
		n := d.below(300)
		a, b := d.samples(n), d.samples(n)
		l, _ := motion.Pair(a, b)
		pairIs(t, b, a, l...)
		pairIs(t, a, a, a...)
	}
}

// What is blended lies between both; beside r nothing is changed (P15.6).
func TestBlendsBetween(t *testing.T) {
	d := draws(86)
	for _, k := range ways() {
		for range 300 {
			b := d.blend(k)
			for at, v := range blended(t, k, b) {
				x, y := at%b.w-b.r.X, at/b.w-b.r.Y
				if x < 0 || x >= b.r.W || y < 0 || y >= b.r.H {
					if v != b.own[at] {
						t.Fatalf("%s of rows of %d, %+v: %d beside r is changed to %d", k.name, b.w, b.r, b.own[at], v)
					}
				} else if o := b.other[y*b.r.W+x]; !between(v, b.own[at], o) {
					t.Fatalf("%s of rows of %d, %+v: %d out of %d and %d", k.name, b.w, b.r, v, b.own[at], o)
				}
			}
		}
	}
}

// What is blended of two that are the same is that one: every sample by every weight (P15.6).
func TestBlendsOfTheSame(t *testing.T) {
	d := draws(87)
	for _, k := range ways() {
		for v := range 256 {
			b := blend{own: alike(32*8, uint8(v))}
			*k.depth(&b.r), *k.along(&b.r) = 32, 8
			b.w, b.other = b.r.W, b.own
			blendedIs(t, k, b, b.own...)
		}
		for range 100 {
			b := d.blend(k)
			b.other = standing(api.Plane{W: b.w, H: len(b.own) / b.w, Pix: b.own}, b.r)
			blendedIs(t, k, b, b.own...)
		}
	}
}

// turned are rows of w samples, turned about their falling diagonal.
func turned(l []uint8, w int) []uint8 {
	var out []uint8
	for x := range w {
		for y := range len(l) / w {
			out = append(out, l[y*w+x])
		}
	}
	return out
}

// Left of samples turned about their falling diagonal is Above, turned about, and the other way round (P15.7).
func TestTurnedAbout(t *testing.T) {
	d := draws(88)
	for i, k := range ways() {
		o := ways()[1-i]
		for range 300 {
			b := d.blend(k)
			want := turned(blended(t, k, b), b.w)
			about := blend{turned(b.own, b.w), len(b.own) / b.w, rect(b.r.Y, b.r.X, b.r.H, b.r.W), turned(b.other, b.r.W)}
			blendedIs(t, o, about, want...)
		}
		// what the one refuses the other refuses, turned about
		for range 300 {
			b := d.blend(k)
			b.r = rect(d.from(-1, 20), d.from(-1, 20), d.from(0, 40), d.from(0, 40))
			b.other = make([]uint8, b.r.W*b.r.H)
			l, e := k.call(b.own, b.w, b.r, b.other)
			m, f := o.call(turned(b.own, b.w), len(b.own)/b.w, rect(b.r.Y, b.r.X, b.r.H, b.r.W), b.other)
			if e != f || e == api.OK && !slices.Equal(turned(l, b.w), m) {
				t.Fatalf("%+v: %d of %s, %d of %s", b.r, e, k.name, f, o.name)
			}
		}
	}
}
