package txfm_test

import (
	"slices"
	"testing"

	"zoetrope/api"
)

// back is Inverse of Forward.
func back(t *testing.T, s shape, in []int) []int {
	t.Helper()
	return must(t, ways()[0], s, must(t, ways()[1], s, in))
}

// lossless asks whether a block comes back by TxWht.
func lossless(t *testing.T, in []int) {
	t.Helper()
	if out := back(t, shape{4, api.TxWht}, in); !slices.Equal(out, in) {
		t.Fatalf("Inverse of Forward of %v: %v", in, out)
	}
}

// TxWht loses nothing: of one or two numbers at any places, of both ends, of small numbers, whose halves are rounded, and of any between (P8.5).
func TestNothingLost(t *testing.T) {
	for v := -255; v <= 255; v++ {
		lossless(t, alike(16, v))
		for at := range 16 {
			in := single(16, at, v)
			lossless(t, in)
			in[(at+5)%16] = 255
			lossless(t, in)
		}
	}
	for x := range 1 << 16 {
		in := alike(16, -255)
		for at := range in {
			if x>>at&1 == 1 {
				in[at] = 255
			}
		}
		lossless(t, in)
	}
	d := draws(3)
	for range 5000 {
		for _, end := range []int{1, 2, 3, 100, 255} {
			lossless(t, d.upTo(16, end))
		}
		lossless(t, d.among(16, -255, -254, 254, 255))
	}
}

// Whatever is alike everywhere comes back by TxDct as it was, of every size: all differences that there are (P8.6).
func TestFlat(t *testing.T) {
	for _, size := range sizes() {
		for v := -255; v <= 255; v++ {
			for i, u := range back(t, shape{size, api.TxDct}, alike(size*size, v)) {
				if u != v {
					t.Fatalf("%d, %d: %d at %d", size, v, u, i)
				}
			}
		}
	}
}

// near asks how near a block comes back.
func near(t *testing.T, s shape, in []int) {
	t.Helper()
	for i, v := range back(t, s, in) {
		if far := v - in[i]; far > 8*s.size || far < -8*s.size {
			t.Fatalf("%v: %d comes back as %d", s, in[i], v)
		}
	}
}

// Of sizes up to 16 no number comes back farther away than 8 times the size (P8.6).
func TestNear(t *testing.T) {
	d := draws(4)
	for _, s := range shapes() {
		if s.size > 16 {
			continue
		}
		n := s.size * s.size
		for _, v := range []int{-255, -128, -1, 0, 1, 128, 255} {
			near(t, s, alike(n, v))
			for at := range n {
				near(t, s, single(n, at, v))
			}
		}
		for range 50 {
			near(t, s, d.upTo(n, 255))
			near(t, s, d.upTo(n, 2))
			near(t, s, d.among(n, 255, -255))
			near(t, s, d.among(n, 255, 0, -255))
		}
		for at := range n {
			near(t, s, greatest(s, at, 255, s.size, byCoefficient))
		}
	}
}

// byCoefficient tells the weights of all samples in one coefficient, bySample those of all coefficients in one sample. Of Wht all weights count as 1 or -1: those of a table of four rows.
func byCoefficient(kind, n, at, j int) int {
	if kind == api.Wht {
		return [4][4]int{{1, 1, 1, 1}, {1, 1, -1, -1}, {1, -1, -1, 1}, {1, -1, 1, -1}}[at][j]
	}
	return weights()[[2]int{kind, n}][at][j]
}

func bySample(kind, n, at, j int) int { return byCoefficient(kind, n, j, at) }

// greatest is side rows of side numbers, each end or -end (which of 16 bits is one more), that count most at one place of what is answered: each with the sign that its weights have there.
func greatest(s shape, at, end, side int, weigh func(kind, n, at, j int) int) []int {
	row, column := both(s.kind)
	var l []int
	for y := range side {
		for x := range side {
			v := end
			if (weigh(row, s.size, at%s.size, x) < 0) != (weigh(column, s.size, at/s.size, y) < 0) {
				v = -end
				if end == 32767 {
					v = -32768
				}
			}
			l = append(l, v)
		}
	}
	return l
}

// minus is a block of the other signs.
func minus(in []int) []int {
	l := slices.Clone(in)
	for i, v := range l {
		l[i] = -v
	}
	return l
}

// bounded asks for what the document says, and whether it lies between both ends.
func bounded(t *testing.T, w way, s shape, in []int) {
	t.Helper()
	out := must(t, w, s, in)
	same(t, w, s, out, w.want(s.size, s.kind, in))
	low, high := -1<<17, 1<<17
	if w.name == "Forward" {
		low, high = -32768, 32767
	}
	for i, v := range out {
		if v < low || v > high {
			t.Fatalf("%s(%v) at %d: %d", w.name, s, i, v)
		}
	}
}

// places are all places of small blocks, and some of great ones.
func places(size int) []int {
	var l []int
	for at := 0; at < size*size; at += max(1, size*size/64-1) {
		l = append(l, at)
	}
	return append(l, size-1, size*size-1)
}

// Nothing that is answered leaves the bounds, not even where every weight counts with its own sign (P8.7).
func TestBounded(t *testing.T) {
	d := draws(5)
	inverse, forward := ways()[0], ways()[1]
	for _, s := range shapes() {
		n := kept(s.size)
		for _, at := range places(s.size) {
			in := greatest(s, at, 32767, n, bySample)
			bounded(t, inverse, s, in)
			bounded(t, inverse, s, minus(in))
			if at%s.size < n && at/s.size < n {
				in = greatest(s, at, 255, s.size, byCoefficient)
				bounded(t, forward, s, in)
				bounded(t, forward, s, minus(in))
			}
		}
		for _, v := range []int{1 << 20, 32767, -32768, -1 << 20} {
			bounded(t, inverse, s, alike(n*n, v))
			bounded(t, inverse, s, single(n*n, 0, v))
		}
		for _, v := range []int{255, -255} {
			bounded(t, forward, s, alike(s.size*s.size, v))
		}
		for range 5 {
			bounded(t, inverse, s, d.among(n*n, 1<<20, -1<<20))
			bounded(t, forward, s, d.among(s.size*s.size, 255, -255))
		}
	}
}

// The lower bound itself is reached, by TxWht of the least numbers of 16 bits (P8.7).
func TestLeastOfAll(t *testing.T) {
	for _, v := range []int{-32768, -32769, -1 << 20} {
		if out := must(t, ways()[0], shape{4, api.TxWht}, alike(16, v)); out[0] != -1<<17 {
			t.Errorf("of %d: %d", v, out[0])
		}
	}
}

// Noughts come to noughts (P8.8).
func TestNoughts(t *testing.T) {
	for _, s := range shapes() {
		for _, w := range ways() {
			for i, v := range must(t, w, s, make([]int, w.many(s.size))) {
				if v != 0 {
					t.Fatalf("%s(%v) at %d: %d", w.name, s, i, v)
				}
			}
		}
	}
}

// Coefficients beyond 16 bits come to what the clipped ones come to, alone and beside others (P8.8).
func TestClipped(t *testing.T) {
	d := draws(6)
	for _, s := range shapes() {
		n := kept(s.size) * kept(s.size)
		for _, at := range places(kept(s.size)) {
			for _, v := range []int{32768, 32769, 1 << 20, -32769, -1 << 20} {
				alikeClipped(t, s, single(n, at, v))
			}
		}
		for range 10 {
			alikeClipped(t, s, d.upTo(n, 1<<20))
			alikeClipped(t, s, d.upTo(n, 40000))
			alikeClipped(t, s, d.among(n, 0, 0, 0, 1, -1, 32768, -32769, 1<<20, -1<<20))
		}
	}
}

func alikeClipped(t *testing.T, s shape, in []int) {
	t.Helper()
	less := slices.Clone(in)
	for i, v := range less {
		less[i] = bits16(v)
	}
	same(t, ways()[0], s, must(t, ways()[0], s, in), must(t, ways()[0], s, less))
}
