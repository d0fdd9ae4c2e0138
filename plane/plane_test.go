package plane_test

import (
	"math"
	"slices"
	"testing"

	"zoetrope/api"
	"zoetrope/plane"
)

// The chapter's row of places (P5.1).
func TestAtExamples(t *testing.T) {
	for _, x := range []struct {
		p    api.Plane
		x, y int
		v    uint8
	}{{four(), 0, 0, 1}, {four(), 5, 0, 2}, {four(), -1, 9, 3}, {api.Plane{}, 0, 0, 0}} {
		if v := plane.At(x.p, x.x, x.y); v != x.v {
			t.Errorf("At(%v, %d, %d): got %d, want %d", x.p, x.x, x.y, v, x.v)
		}
	}
}

// A plane of each shape, of each kind of sample (P5.1).
func TestNew(t *testing.T) {
	for _, s := range shapes() {
		for _, v := range []uint8{0, 1, 127, 128, 254, 255} {
			p, e := plane.New(s[0], s[1], v)
			want := api.Plane{W: s[0], H: s[1], Pix: slices.Repeat([]uint8{v}, s[0]*s[1])}
			if e != api.OK || !same(p, want) {
				t.Errorf("New(%d, %d, %d): %d by %d, %d samples, %d", s[0], s[1], v, p.W, p.H, len(p.Pix), e)
			}
		}
	}
}

// Every side from 1 to 512 may be, and none beside them, whatever the other side is (P5.1).
func TestNewOfEverySide(t *testing.T) {
	for n := -20; n <= 540; n++ {
		for _, s := range [][2]int{{n, 3}, {3, n}, {n, n}} {
			p, e := plane.New(s[0], s[1], 7)
			if n < 1 || n > 512 {
				if e != api.ErrArg || !zero(p) {
					t.Errorf("New(%d, %d): %d by %d, %d", s[0], s[1], p.W, p.H, e)
				}
			} else if e != api.OK || p.W != s[0] || p.H != s[1] || len(p.Pix) != s[0]*s[1] {
				t.Errorf("New(%d, %d): %d by %d, %d samples, %d", s[0], s[1], p.W, p.H, len(p.Pix), e)
			}
		}
	}
	for _, n := range noSides() {
		for _, m := range append(noSides(), 1, 2, 512) {
			for _, s := range [][2]int{{n, m}, {m, n}} {
				if p, e := plane.New(s[0], s[1], 9); e != api.ErrArg || !zero(p) {
					t.Errorf("New(%d, %d): %d by %d, %d", s[0], s[1], p.W, p.H, e)
				}
			}
		}
	}
}

// Planes that may be, and planes that may not (P5.1).
func TestCheck(t *testing.T) {
	for _, p := range planes() {
		if e := plane.Check(p); e != api.OK {
			t.Errorf("%d by %d: %d", p.W, p.H, e)
		}
		for _, n := range []int{0, 1, len(p.Pix) - 1, len(p.Pix) + 1, 2 * len(p.Pix)} {
			q := api.Plane{W: p.W, H: p.H, Pix: make([]uint8, n)}
			if e := plane.Check(q); n != len(p.Pix) && e != api.ErrArg {
				t.Errorf("%d by %d of %d samples: %d", q.W, q.H, n, e)
			}
		}
		room, _ := roomy(p.Pix)
		if e := plane.Check(api.Plane{W: p.W, H: p.H, Pix: room}); e != api.OK {
			t.Errorf("%d by %d, with spare room: %d", p.W, p.H, e)
		}
		if e := plane.Check(api.Plane{W: p.W, H: p.H, Pix: room[:len(p.Pix)-1]}); e != api.ErrArg {
			t.Errorf("%d by %d, its last sample spare room: %d", p.W, p.H, e)
		}
	}
	for i, p := range wrong() {
		if e := plane.Check(p); e != api.ErrArg {
			t.Errorf("%d: %d by %d of %d samples: %d", i, p.W, p.H, len(p.Pix), e)
		}
	}
}

// All places within, and some beside them on each side (P5.1).
func TestAt(t *testing.T) {
	for _, p := range planes() {
		if len(p.Pix) > 10000 {
			continue
		}
		for y := -3; y < p.H+3; y++ {
			for x := -3; x < p.W+3; x++ {
				if v := plane.At(p, x, y); v != near(p, x, y) {
					t.Fatalf("%d by %d: At(%d, %d): got %d, want %d", p.W, p.H, x, y, v, near(p, x, y))
				}
			}
		}
	}
}

// Places far away, as far as numbers go (P5.1).
func TestAtFar(t *testing.T) {
	for _, p := range planes() {
		l := append(far(), p.W/2, p.H/2, p.W-1, p.W, p.W+1, p.H-1, p.H, p.H+1, 510, 511, 512, 513)
		for _, x := range l {
			for _, y := range l {
				if v := plane.At(p, x, y); v != near(p, x, y) {
					t.Errorf("%d by %d: At(%d, %d): got %d, want %d", p.W, p.H, x, y, v, near(p, x, y))
				}
			}
		}
	}
}

// A plane that may not be has no sample, wherever it is looked for (P5.1).
func TestAtOfWrongPlanes(t *testing.T) {
	for i, p := range wrong() {
		for j := range p.Pix {
			p.Pix[j] |= 1
		}
		for _, x := range far() {
			for _, y := range []int{x, 0, 1, -1, math.MaxInt} {
				if v := plane.At(p, x, y); v != 0 {
					t.Errorf("%d: At(%d, %d): %d", i, x, y, v)
				}
			}
		}
	}
}

// Planes are the same as their twins, and as none that differs in a side or a sample (P5.1).
func TestSame(t *testing.T) {
	ask := func(what string, a, b api.Plane, want bool) {
		t.Helper()
		if plane.Same(a, b) != want || plane.Same(b, a) != want {
			t.Errorf("%s: %d by %d, %d by %d: %v and %v, want %v", what, a.W, a.H, b.W, b.H, plane.Same(a, b), plane.Same(b, a), want)
		}
	}
	l := planes()
	for i, p := range l {
		ask("itself", p, p, true)
		ask("its twin", p, twin(p), true)
		for _, j := range []int{0, len(p.Pix) / 2, len(p.Pix) - 1} {
			for _, bit := range []uint8{1, 128, 255} {
				q := twin(p)
				q.Pix[j] ^= bit
				ask("another sample", p, q, false)
			}
		}
		for j := range i {
			ask("another plane", p, l[j], false)
		}
	}
	p := four()
	ask("one row", p, ints(4, 1, 1, 2, 3, 4), false)
	ask("one column", p, ints(1, 4, 1, 2, 3, 4), false)
	ask("another W", p, ints(3, 2, 1, 2, 3, 4), false)
	ask("another H", p, ints(2, 3, 1, 2, 3, 4), false)
	ask("the sides the other way round", ints(3, 2, 5, 5, 5, 5, 5, 5), ints(2, 3, 5, 5, 5, 5, 5, 5), false)
	ask("fewer samples", p, ints(2, 2, 1, 2, 3), false)
	ask("more samples", p, ints(2, 2, 1, 2, 3, 4, 0), false)
}

// Same tells of planes that may not be, too, and a list without elements may be nil or not (P5.1).
func TestSameOfWrongPlanes(t *testing.T) {
	l := wrong()
	for i, p := range l {
		for j, q := range l {
			if plane.Same(p, q) != same(p, q) || plane.Same(p, twin(q)) != same(p, q) {
				t.Errorf("%d and %d: %v, want %v", i, j, plane.Same(p, q), same(p, q))
			}
		}
		if !plane.Same(p, twin(p)) {
			t.Errorf("%d is not the same as its twin", i)
		}
		if plane.Same(p, four()) || plane.Same(four(), p) {
			t.Errorf("%d is the same as a plane that may be", i)
		}
	}
	if !plane.Same(api.Plane{}, api.Plane{Pix: []uint8{}}) || !plane.Same(api.Plane{W: -1, H: 7, Pix: []uint8{}}, api.Plane{W: -1, H: 7}) {
		t.Error("no samples are not the same as no samples")
	}
}

// sum is how far two planes are apart, worked out without a sign.
func sum(a, b api.Plane) uint64 {
	s := uint64(0)
	for i := range a.Pix {
		d := uint64(max(a.Pix[i], b.Pix[i]) - min(a.Pix[i], b.Pix[i]))
		s += d * d
	}
	return s
}

// The chapter's row of planes that are apart, and sums by hand (P5.3).
func TestApartByHand(t *testing.T) {
	for _, x := range []struct {
		a, b api.Plane
		n    uint64
	}{
		{four(), ints(2, 2, 1, 2, 3, 7), 9}, {four(), four(), 0}, {four(), ints(2, 2, 4, 3, 2, 1), 20},
		{ints(1, 1, 0), ints(1, 1, 255), 65025}, {ints(1, 1, 255), ints(1, 1, 0), 65025}, {ints(3, 1, 0, 255, 128), ints(3, 1, 255, 0, 0), 65025*2 + 16384},
	} {
		if n, e := plane.Apart(x.a, x.b); n != x.n || e != api.OK {
			t.Errorf("Apart(%v, %v): got %d, %d, want %d", x.a, x.b, n, e, x.n)
		}
	}
	a, b := must(t)(plane.New(512, 512, 0)), must(t)(plane.New(512, 512, 255))
	for _, l := range [][2]api.Plane{{a, b}, {b, a}} {
		if n, e := plane.Apart(l[0], l[1]); n != 17045913600 || e != api.OK {
			t.Errorf("as far as can be: %d, %d", n, e)
		}
	}
}

// Either way round planes are as far apart, and 0 just if they are the same (P5.3, P5.9).
func TestApart(t *testing.T) {
	d := draws(9)
	for _, a := range planes() {
		b := d.plane(a.W, a.H)
		few := twin(a)
		few.Pix[d.below(len(few.Pix))] ^= 1
		first, last := twin(a), twin(a)
		first.Pix[0] ^= 255
		last.Pix[len(last.Pix)-1] ^= 128
		for i, c := range []api.Plane{a, b, few, first, last, twin(a)} {
			n, e := plane.Apart(a, c)
			m, f := plane.Apart(c, a)
			if n != sum(a, c) || n != m || e != api.OK || f != api.OK {
				t.Errorf("%d by %d, %d: got %d, %d and %d, %d, want %d", a.W, a.H, i, n, e, m, f, sum(a, c))
			}
			if (n == 0) != plane.Same(a, c) {
				t.Errorf("%d by %d, %d: %d apart, the same: %v", a.W, a.H, i, n, plane.Same(a, c))
			}
		}
	}
}

// Each difference of two samples counts for its square, either way round (P5.3, P5.9).
func TestApartOfEverySample(t *testing.T) {
	for v := range 256 {
		for u := range 256 {
			want := uint64((v - u) * (v - u))
			if n, e := plane.Apart(ints(2, 1, uint8(v), 9), ints(2, 1, uint8(u), 9)); n != want || e != api.OK {
				t.Fatalf("%d and %d: got %d, %d, want %d", v, u, n, e, want)
			}
		}
	}
}

// ErrArg of planes that may not be, on either side, and of two that are not of one size (P5.3).
func TestApartWrong(t *testing.T) {
	refused := func(a, b api.Plane) {
		t.Helper()
		if n, e := plane.Apart(a, b); n != 0 || e != api.ErrArg {
			t.Errorf("%d by %d of %d and %d by %d of %d: %d, %d", a.W, a.H, len(a.Pix), b.W, b.H, len(b.Pix), n, e)
		}
	}
	for _, p := range wrong() {
		refused(p, four())
		refused(four(), p)
		refused(p, p)
		refused(p, twin(p))
	}
	l := planes()
	for i, p := range l {
		for j, q := range l {
			if i != j {
				refused(p, q)
			}
		}
	}
	refused(four(), ints(4, 1, 1, 2, 3, 4))
	refused(four(), ints(1, 4, 1, 2, 3, 4))
	refused(ints(2, 1, 1, 2), four())
	refused(ints(1, 2, 1, 2), four())
}
