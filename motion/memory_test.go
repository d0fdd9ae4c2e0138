package motion_test

import (
	"slices"
	"testing"

	"zoetrope/api"
	"zoetrope/motion"
)

// roomy is a list with spare room behind it, and that room as a whole.
func roomy(l []uint8) (list, room []uint8) {
	room = append(slices.Clone(l), 255, 0, 77, 255, 1, 2, 3)
	return room[:len(l)], room
}

// roomyFrame is a frame whose planes have spare room behind them, and that room.
func roomyFrame(f api.Frame) (api.Frame, [3][]uint8) {
	var rooms [3][]uint8
	for n := range f.P {
		f.P[n].Pix, rooms[n] = roomy(f.P[n].Pix)
	}
	return f, rooms
}

// spoil changes a list, its spare room too.
func spoil(l []uint8) {
	l = l[:cap(l)]
	for i := range l {
		l[i] ^= 255
	}
}

// untouched asks that lists are what they were.
func untouched(t *testing.T, what string, l, before [][]uint8) {
	t.Helper()
	for i := range l {
		if !slices.Equal(l[i], before[i]) {
			t.Fatalf("%s: list %d is changed", what, i)
		}
	}
}

func clones(l [][]uint8) [][]uint8 {
	var out [][]uint8
	for _, v := range l {
		out = append(out, slices.Clone(v))
	}
	return out
}

// newMemory asks one call twice: neither answer shares memory with the other, or with what was handed in, whose spare room counts as well.
func newMemory(t *testing.T, what string, rooms [][]uint8, call func() ([]uint8, api.Errno)) {
	t.Helper()
	before := clones(rooms)
	x, e := call()
	y, f := call()
	if e != f || !slices.Equal(x, y) {
		t.Fatalf("%s: another answer at another time", what)
	}
	untouched(t, what, rooms, before)
	want := slices.Clone(y)
	spoil(x)
	untouched(t, what+", an answer spoilt", rooms, before)
	if !slices.Equal(y, want) {
		t.Fatalf("%s: two answers share memory", what)
	}
	for _, room := range rooms {
		spoil(room)
	}
	if !slices.Equal(y, want) {
		t.Fatalf("%s: an answer changes with what was handed in", what)
	}
	for _, room := range rooms {
		spoil(room)
	}
	untouched(t, what, rooms, before)
}

// A frame is only read, its spare room neither read nor written; blocks are new memory, even where they are a plane's samples themselves (P15.4).
func TestMemoryOfSingle(t *testing.T) {
	d := draws(91)
	for i, keep := range append(frames(), wrongFrames()...) {
		moves := []move{{0, rect(0, 0, 16, 16), vec(0, 0), 0}, {1, rect(0, 0, 8, 8), vec(0, 0), 1}, {2, rect(0, 0, 64, 4), vec(16, 0), 2}, {3, rect(0, 0, 4, 4), vec(0, 0), 0}, {0, rect(-1, 0, 4, 4), vec(0, 0), 0}}
		if i < len(frames()) {
			for range 5 {
				moves = append(moves, d.move(keep))
			}
		}
		for _, m := range moves {
			f, rooms := roomyFrame(keep)
			newMemory(t, "Single", rooms[:], func() ([]uint8, api.Errno) { return motion.Single(f, m.n, m.r, m.v, m.kind) })
			l, e := motion.Single(f, m.n, m.r, m.v, m.kind)
			for n := range f.P {
				f.P[n].Pix = slices.Clip(keep.P[n].Pix)
			}
			if o, g := motion.Single(f, m.n, m.r, m.v, m.kind); e != g || !slices.Equal(l, o) {
				t.Fatalf("%+v: with spare room something else", m)
			}
		}
	}
}

// Both lists are only read, and may be one list; what is paired is new memory (P15.4).
func TestMemoryOfPair(t *testing.T) {
	d := draws(92)
	for _, n := range []int{0, 1, 2, 16, 100, 1000} {
		for _, m := range []int{n, n + 1} {
			a, roomA := roomy(d.samples(n))
			b, roomB := roomy(d.samples(m))
			newMemory(t, "Pair", [][]uint8{roomA, roomB}, func() ([]uint8, api.Errno) { return motion.Pair(a, b) })
			newMemory(t, "Pair of one list", [][]uint8{roomA}, func() ([]uint8, api.Errno) { return motion.Pair(a, a) })
		}
		// lists that overlap
		room := d.samples(n + 5)
		var want []uint8
		for i := range n {
			want = append(want, uint8(rounded(int(room[i])+int(room[i+3]), 2)))
		}
		pairIs(t, room[:n], room[3:n+3], want...)
		newMemory(t, "Pair of lists that overlap", [][]uint8{room}, func() ([]uint8, api.Errno) { return motion.Pair(room[:n], room[3:n+3]) })
	}
}

// Weights are new memory (P15.4).
func TestMemoryOfWeights(t *testing.T) {
	for range 2 {
		for n := 4; n <= 32; n++ {
			x, y := weights(t, n), weights(t, n)
			for i := range x[:cap(x)] {
				x[:cap(x)][i] = -9
			}
			for i := range n {
				if y[i] != weight(n, i) {
					t.Fatalf("Weights(%d): two answers share memory", n)
				}
			}
		}
	}
}

// Own and other samples are only read, and may be one list; what is blended is new memory, where nothing is changed by it, too (P15.4).
func TestMemoryOfBlends(t *testing.T) {
	d := draws(93)
	for _, k := range ways() {
		for i := range 60 {
			b := d.blend(k)
			var roomA, roomB []uint8
			b.own, roomA = roomy(b.own)
			b.other, roomB = roomy(b.other)
			switch i % 6 {
			case 1:
				b.w++ // mostly refused
			case 2:
				b.r.W, b.r.H = b.r.H, b.r.W // mostly refused
			case 3:
				b.other = roomB[:len(b.other)+1]
			case 4:
				copy(b.other, standing(api.Plane{W: b.w, H: len(b.own) / b.w, Pix: b.own}, b.r)) // nothing is changed by it
			}
			newMemory(t, k.name, [][]uint8{roomA, roomB}, func() ([]uint8, api.Errno) { return k.call(b.own, b.w, b.r, b.other) })
		}
		// one list as both, and lists that overlap
		n := 32 * 32
		room := d.samples(n + 40)
		for _, from := range []int{0, 1, 31, 40} {
			b := blend{room[:n], 32, rect(0, 0, 32, 32), room[from : from+n]}
			asModelBlend(t, k, b)
			newMemory(t, k.name+" of lists that overlap", [][]uint8{room}, func() ([]uint8, api.Errno) { return k.call(b.own, b.w, b.r, b.other) })
		}
	}
}

// Nothing is kept: the same call answers the same again, whatever was asked between, refused among it (R2).
func TestNothingIsKept(t *testing.T) {
	d := draws(94)
	l := frames()
	for i, f := range l {
		m := d.move(f)
		want := single(t, f, m)
		for range 3 {
			g := l[d.below(len(l))]
			spoil(single(t, g, d.move(g)))
			noSingle(t, g, move{m.n, m.r, m.v, 3})
			noSingle(t, api.Frame{}, m)
			for _, k := range ways() {
				b := d.blend(k)
				spoil(blended(t, k, b))
				noBlend(t, k, blend{b.own, 0, b.r, b.other})
			}
			singleIs(t, f, m, want...)
		}
		// a frame whose samples have changed gives other blocks
		spoil(l[i].P[m.n].Pix)
		asModel(t, f, m)
	}
	for _, k := range ways() {
		b := d.blend(k)
		want := blended(t, k, b)
		noBlend(t, k, blend{b.own, b.w, b.r, nil})
		spoil(blended(t, k, d.blend(k)))
		blendedIs(t, k, b, want...)
	}
}
