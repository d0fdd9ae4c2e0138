package plane_test

import (
	"math"
	"math/big"
	"slices"
	"testing"

	"zoetrope/api"
	"zoetrope/plane"
)

// What is expected is worked out sample by sample, in whole numbers where the document asks for them, and by none of the package's own calls.

// draws is a row of numbers that look mixed and are always the same.
type draws uint64

func (d *draws) below(n int) int {
	*d = *d*6364136223846793005 + 1442695040888963407
	return int(uint64(*d) >> 33 % uint64(n))
}

func (d *draws) samples(n int) []uint8 {
	b := make([]uint8, n)
	for i := range b {
		b[i] = uint8(d.below(256))
	}
	return b
}

func (d *draws) plane(w, h int) api.Plane {
	return api.Plane{W: w, H: h, Pix: d.samples(w * h)}
}

func (d *draws) frame(w, h int) api.Frame {
	return api.Frame{P: [3]api.Plane{d.plane(w, h), d.plane(w/2, h/2), d.plane(w/2, h/2)}}
}

// rect is any one that lies within a plane.
func (d *draws) rect(p api.Plane) api.Rect {
	x, y := d.below(p.W), d.below(p.H)
	return api.Rect{X: x, Y: y, W: 1 + d.below(p.W-x), H: 1 + d.below(p.H-y)}
}

// ints is a plane of a few samples.
func ints(w, h int, l ...uint8) api.Plane { return api.Plane{W: w, H: h, Pix: l} }

// four is the examples' P.
func four() api.Plane { return ints(2, 2, 1, 2, 3, 4) }

// shapes are sizes that planes may have: small ones, both ends, and what lies beside them.
func shapes() [][2]int {
	return [][2]int{
		{1, 1}, {1, 2}, {2, 1}, {2, 2}, {3, 2}, {2, 3}, {5, 4}, {4, 7}, {8, 8}, {9, 17}, {16, 16}, {64, 33},
		{1, 512}, {512, 1}, {2, 511}, {511, 2}, {255, 257}, {512, 512},
	}
}

// planes are some that may be, one of each shape.
func planes() []api.Plane {
	d := draws(5)
	var l []api.Plane
	for _, s := range shapes() {
		l = append(l, d.plane(s[0], s[1]))
	}
	return l
}

// noSides are numbers that no side of a plane is.
func noSides() []int {
	return []int{
		0, -1, -2, -16, -512, 513, 514, 520, 1024, 65536, 65537, 1<<31 - 1, 1 << 31, 1 << 32, 1<<32 + 1, 1<<32 + 16, -1 << 31, -1 << 32,
		math.MaxInt, math.MaxInt - 1, math.MinInt, math.MinInt + 1, math.MinInt + 16,
	}
}

// wrong are planes that may not be, no two of them the same.
func wrong() []api.Plane {
	room := []uint8{1, 2, 3, 4, 5, 6, 7, 8, 9}
	l := []api.Plane{
		{}, {W: 1}, {H: 1}, {W: 1, H: 1}, {W: 512, H: 512}, {Pix: room}, {W: 0, H: 9, Pix: room}, {W: 9, H: 0, Pix: room},
		{W: 1, H: 1, Pix: room[:2]}, {W: 2, H: 2, Pix: room[:3]}, {W: 2, H: 2, Pix: room[:5]}, {W: 2, H: 2, Pix: room[:1]}, {W: 2, H: 2, Pix: room[:8]},
		{W: 3, H: 3, Pix: room[:8]}, {W: 3, H: 2, Pix: room[:5]}, {W: 2, H: 3, Pix: room[:7]}, {W: 1, H: 9, Pix: room[:8]}, {W: 9, H: 1, Pix: room[:0]},
		{W: -1, H: -1, Pix: room[:1]}, {W: -3, H: -3, Pix: room}, {W: -1, H: 3, Pix: room[:3]}, {W: 3, H: -1, Pix: room[:3]}, {W: -2, H: -3, Pix: room[:6]},
		{W: 513, H: 1, Pix: make([]uint8, 513)}, {W: 1, H: 513, Pix: make([]uint8, 513)}, {W: 513, H: 2, Pix: make([]uint8, 1026)}, {W: 514, H: 514, Pix: make([]uint8, 514*514)},
		{W: 512, H: 513, Pix: make([]uint8, 512*513)}, {W: 513, H: 512, Pix: make([]uint8, 512*513)}, {W: 1024, H: 256, Pix: make([]uint8, 1<<18)},
		{W: 512, H: 512, Pix: make([]uint8, 1<<18-1)}, {W: 512, H: 512, Pix: make([]uint8, 1<<18+1)}, {W: 512, H: 1, Pix: make([]uint8, 511)}, {W: 1, H: 512, Pix: make([]uint8, 513)},
		{W: 1 << 32, H: 1 << 32}, {W: 1 << 62, H: 4}, {W: math.MinInt, H: 2}, {W: math.MinInt, H: math.MinInt}, {W: math.MaxInt, H: math.MaxInt, Pix: room[:1]}, {W: 1<<32 + 1, H: 1, Pix: room[:1]},
		{W: math.MaxInt, H: -1, Pix: room[:1]}, {W: 3, H: 6148914691236517206, Pix: room[:2]}, // the product wraps round to 2
	}
	for _, n := range noSides() {
		l = append(l, api.Plane{W: n, H: 3, Pix: room[:6]}, api.Plane{W: 3, H: n, Pix: room[:6]})
	}
	return l
}

// far are numbers of places, and of rectangles, about a plane of 5 by 4, and so far away that sums leave the range.
func far() []int {
	return []int{math.MinInt, math.MinInt + 1, math.MinInt + 5, -1 << 32, -2, -1, 0, 1, 2, 4, 5, 6, 1 << 31, 1 << 32, 1 << 62, math.MaxInt - 5, math.MaxInt - 1, math.MaxInt}
}

// inside tells whether a rectangle lies within a plane, with sums of whole numbers.
func inside(p api.Plane, r api.Rect) bool {
	fits := func(from, n, end int) bool {
		sum := new(big.Int).Add(big.NewInt(int64(from)), big.NewInt(int64(n)))
		return from >= 0 && n >= 1 && sum.Cmp(big.NewInt(int64(end))) <= 0
	}
	return fits(r.X, r.W, p.W) && fits(r.Y, r.H, p.H)
}

// near is the sample of a plane that may be that is nearest to a place.
func near(p api.Plane, x, y int) uint8 {
	switch {
	case x < 0:
		return near(p, 0, y)
	case x >= p.W:
		return near(p, p.W-1, y)
	case y < 0:
		return near(p, x, 0)
	case y >= p.H:
		return near(p, x, p.H-1)
	}
	return p.Pix[y*p.W+x]
}

// taken is a rectangle's samples, of what is nearest where it reaches beyond.
func taken(p api.Plane, r api.Rect) []uint8 {
	var b []uint8
	for y := r.Y; y < r.Y+r.H; y++ {
		for x := r.X; x < r.X+r.W; x++ {
			b = append(b, near(p, x, y))
		}
	}
	return b
}

// same tells whether two planes are alike, as the language sees it.
func same(a, b api.Plane) bool { return a.W == b.W && a.H == b.H && slices.Equal(a.Pix, b.Pix) }

func sameFrame(a, b api.Frame) bool {
	return same(a.P[0], b.P[0]) && same(a.P[1], b.P[1]) && same(a.P[2], b.P[2])
}

// zero tells whether a plane is what stands beside an error.
func zero(p api.Plane) bool { return p.W == 0 && p.H == 0 && len(p.Pix) == 0 }

func zeroFrame(f api.Frame) bool { return zero(f.P[0]) && zero(f.P[1]) && zero(f.P[2]) }

// twin is the same plane in memory of its own.
func twin(p api.Plane) api.Plane { return api.Plane{W: p.W, H: p.H, Pix: slices.Clone(p.Pix)} }

func twinFrame(f api.Frame) api.Frame {
	return api.Frame{P: [3]api.Plane{twin(f.P[0]), twin(f.P[1]), twin(f.P[2])}}
}

// roomy is a list with spare room behind its elements, and that room as a whole.
func roomy(b []uint8) (list, room []uint8) {
	room = append(slices.Clone(b), 11, 22, 33, 44)
	return room[:len(b)], room
}

// spoil changes all elements, spare room too.
func spoil(b []uint8) {
	b = b[:cap(b)]
	for i := range b {
		b[i] ^= 0x5a
	}
}

func spoilFrame(f api.Frame) {
	for _, p := range f.P {
		spoil(p.Pix)
	}
}

// apart spoils lists one by one, and asks whether another one has changed with it.
func apart(t *testing.T, what string, l ...[]uint8) {
	t.Helper()
	for i := range l {
		var before [][]uint8
		for _, b := range l {
			before = append(before, slices.Clone(b[:cap(b)]))
		}
		spoil(l[i])
		for j, b := range l {
			if j != i && !slices.Equal(b[:cap(b)], before[j]) {
				t.Errorf("%s: lists %d and %d share memory", what, i, j)
			}
		}
	}
}

// must is a plane that was answered without an error.
func must(t *testing.T) func(p api.Plane, e api.Errno) api.Plane {
	return func(p api.Plane, e api.Errno) api.Plane {
		t.Helper()
		if e != api.OK {
			t.Fatalf("refused: %d", e)
		}
		if plane.Check(p) != api.OK {
			t.Fatalf("a plane that may not be: %d by %d, %d samples", p.W, p.H, len(p.Pix))
		}
		return p
	}
}

// mustFrame is a frame that was answered without an error.
func mustFrame(t *testing.T) func(f api.Frame, e api.Errno) api.Frame {
	return func(f api.Frame, e api.Errno) api.Frame {
		t.Helper()
		if e != api.OK {
			t.Fatalf("refused: %d", e)
		}
		if plane.Whole(f) != api.OK {
			t.Fatalf("a frame that may not be: %d by %d", f.P[0].W, f.P[0].H)
		}
		return f
	}
}
