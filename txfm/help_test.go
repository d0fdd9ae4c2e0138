package txfm_test

import (
	"math"
	"slices"
	"sync"
	"testing"

	"zoetrope/api"
	"zoetrope/txfm"
)

// What is expected is worked out with the library's cosines and sines, and by no call of the packages that the transforms are made of.

// draws is a row of numbers that look mixed and are always the same.
type draws uint64

func (d *draws) below(n int) int {
	*d = *d*6364136223846793005 + 1442695040888963407
	return int(uint64(*d) >> 33 % uint64(n))
}

// upTo is n numbers from -end to end.
func (d *draws) upTo(n, end int) []int {
	l := make([]int, n)
	for i := range l {
		l[i] = d.below(2*end+1) - end
	}
	return l
}

// among is n numbers, each of them one of a few.
func (d *draws) among(n int, few ...int) []int {
	l := make([]int, n)
	for i := range l {
		l[i] = few[d.below(len(few))]
	}
	return l
}

// way is one of both calls, with its name, how many numbers a size's blocks have there, and how far from 0 these may be.
type way struct {
	name string
	call func(size, kind int, in []int) ([]int, api.Errno)
	want func(size, kind int, in []int) []int
	many func(size int) int
	most int
}

func ways() []way {
	return []way{
		{"Inverse", txfm.Inverse, inverse, func(size int) int { return kept(size) * kept(size) }, 1 << 20},
		{"Forward", txfm.Forward, forward, func(size int) int { return size * size }, 255},
	}
}

// shape is a size, and a kind that it has.
type shape struct{ size, kind int }

// had are the kinds of each size, as the document has them.
func had() map[int][]int {
	return map[int][]int{4: {0, 1, 2, 3, 4, 5, 6, 7, 8, 9}, 8: {0, 1, 2, 3, 4, 5, 6, 7, 8}, 16: {0, 1, 2, 3, 4, 5, 6, 7, 8}, 32: {0, 8}, 64: {0}}
}

func sizes() []int { return []int{4, 8, 16, 32, 64} }

func shapes() []shape {
	var l []shape
	for _, size := range sizes() {
		for _, kind := range had()[size] {
			l = append(l, shape{size, kind})
		}
	}
	return l
}

// noSizes are numbers that no size is.
func noSizes() []int {
	return []int{0, -1, -4, -8, -64, 1, 2, 3, 5, 6, 7, 9, 12, 15, 17, 24, 31, 33, 48, 63, 65, 128, 256, 1<<32 + 4, 1<<32 + 64, math.MaxInt, math.MinInt, math.MinInt + 4, math.MinInt + 64}
}

// noKinds are numbers that are no kind of any size.
func noKinds() []int {
	return []int{-1, -2, -3, -8, -9, -10, 10, 11, 12, 16, 99, 256, 1 << 32, 1<<32 + 8, -1 << 32, math.MaxInt, math.MinInt, math.MinInt + 8}
}

// kept is how many coefficients of a row a size keeps, as the document has it.
func kept(size int) int {
	if size == 64 {
		return 32
	}
	return size
}

// alike is n numbers v.
func alike(n, v int) []int { return slices.Repeat([]int{v}, n) }

// single is n noughts, but for one number.
func single(n, at, v int) []int {
	l := make([]int, n)
	l[at] = v
	return l
}

// down is a / b, rounded down; b is above 0.
func down(a, b int) int {
	q := a / b
	if q*b > a {
		q--
	}
	return q
}

// nearest is a / b to the nearest, up from the middle.
func nearest(a, b int) int { return down(2*a+b, 2*b) }

// bits16 is a number brought into 16 bits.
func bits16(v int) int {
	switch {
	case v < -32768:
		return -32768
	case v > 32767:
		return 32767
	}
	return v
}

// weight is how much of sample i of a row of n coefficient k is.
func weight(kind, n, k, i int) int {
	x, y, z := float64(2*i+1), float64(k), float64(n)
	switch {
	case kind == 0 && k == 0:
		return int(math.Round(4096 * math.Sqrt(0.5)))
	case kind == 0:
		return int(math.Round(4096 * math.Cos(math.Pi*x*y/(2*z))))
	case kind == 1:
		return int(math.Round(4096 * math.Sin(math.Pi*x*(2*y+1)/(4*z))))
	case k != i:
		return 0
	}
	return map[int]int{4: 5793, 8: 8192, 16: 11586, 32: 16384}[n]
}

// weights are those of all kinds and lengths, because each one asks for a cosine.
var weights = sync.OnceValue(func() map[[2]int][][]int {
	all := map[[2]int][][]int{}
	for _, n := range []int{4, 8, 16, 32, 64} {
		for kind := range 3 {
			l := make([][]int, n)
			for k := range l {
				for i := range n {
					l[k] = append(l[k], weight(kind, n, k, i))
				}
			}
			all[[2]int{kind, n}] = l
		}
	}
	return all
})

// halves is Wht of a row, either way: its own inverse, each number half of a sum, and what is odd goes as the steps of the document have it.
func halves(in []int) []int {
	e := down(in[0]+in[1]-in[2]+in[3], 2)
	return []int{in[0] + in[1] + in[3] - e, e - in[3], e - in[1], in[2] - in[3] - in[1] + e}
}

// samples is a row of coefficients, turned.
func samples(kind int, in []int) []int {
	if kind == 3 {
		return halves(in)
	}
	out, w := make([]int, len(in)), weights()[[2]int{kind, len(in)}]
	for k, v := range in {
		if v != 0 {
			for i := range out {
				out[i] += v * w[k][i]
			}
		}
	}
	for i := range out {
		out[i] = nearest(out[i], 4096)
	}
	return out
}

// coefficients is a row of samples, turned.
func coefficients(kind int, in []int) []int {
	if kind == 3 {
		return halves(in)
	}
	out, w := make([]int, len(in)), weights()[[2]int{kind, len(in)}]
	for i, v := range in {
		if v != 0 {
			for k := range out {
				out[k] += v * w[k][i]
			}
		}
	}
	for k := range out {
		out[k] = nearest(out[k], 4096)
	}
	return out
}

// both are the kinds of a block's rows and columns.
func both(kind int) (row, column int) {
	l := [10][2]int{{0, 0}, {1, 0}, {2, 0}, {0, 1}, {1, 1}, {2, 1}, {0, 2}, {1, 2}, {2, 2}, {3, 3}}[kind]
	return l[0], l[1]
}

// flipped has the columns of a table as rows.
func flipped(t [][]int) [][]int {
	l := make([][]int, len(t[0]))
	for x := range l {
		l[x] = make([]int, len(t))
		for y := range t {
			l[x][y] = t[y][x]
		}
	}
	return l
}

// inverse is what Inverse is to answer of a block that may be.
func inverse(size, kind int, in []int) []int {
	row, column := both(kind)
	by := map[int]int{4: 1, 8: 2, 16: 4, 32: 4, 64: 4}[size]
	t := make([][]int, size)
	for y := range t {
		t[y] = make([]int, size)
		if y < kept(size) {
			for x := range kept(size) {
				t[y][x] = bits16(in[y*kept(size)+x])
			}
		}
		t[y] = samples(row, t[y])
		for x, v := range t[y] {
			if kind != 9 {
				t[y][x] = bits16(nearest(v, by))
			}
		}
	}
	t = flipped(t)
	for x := range t {
		t[x] = samples(column, t[x])
		for y, v := range t[x] {
			if kind != 9 {
				t[x][y] = nearest(v, 16)
			}
		}
	}
	return slices.Concat(flipped(t)...)
}

// forward is what Forward is to answer of a block that may be.
func forward(size, kind int, in []int) []int {
	row, column := both(kind)
	t := flipped(slices.Collect(slices.Chunk(in, size)))
	for x := range t {
		t[x] = coefficients(column, t[x])
	}
	t = flipped(t)[:kept(size)]
	times, by := map[int]int{4: 4, 8: 2, 16: 1, 32: 1, 64: 1}[size], map[int]int{4: 1, 8: 1, 16: 1, 32: 4, 64: 16}[size]
	for y := range t {
		t[y] = coefficients(row, t[y])[:kept(size)]
		for x, v := range t[y] {
			if kind != 9 {
				t[y][x] = bits16(nearest(v*times, by))
			}
		}
	}
	return slices.Concat(t...)
}

// must is the answer of a call that is to answer.
func must(t *testing.T, w way, s shape, in []int) []int {
	t.Helper()
	out, e := w.call(s.size, s.kind, in)
	many := s.size * s.size
	if w.name == "Forward" {
		many = kept(s.size) * kept(s.size)
	}
	if e != api.OK || len(out) != many {
		t.Fatalf("%s(%v, %d numbers): %d numbers, %d", w.name, s, len(in), len(out), e)
	}
	return out
}

// check asks a call for what it is to answer.
func check(t *testing.T, w way, s shape, in []int) {
	t.Helper()
	same(t, w, s, must(t, w, s, in), w.want(s.size, s.kind, in))
}

// same asks whether a block is what it is to be, and tells the first place where it is not.
func same(t *testing.T, w way, s shape, out, want []int) {
	t.Helper()
	for i := range want {
		if out[i] != want[i] {
			t.Fatalf("%s(%v) at %d: got %d, want %d", w.name, s, i, out[i], want[i])
		}
	}
}

// refused asks a call for an error, and for nothing beside it.
func refused(t *testing.T, w way, s shape, in []int, want api.Errno) {
	t.Helper()
	if out, e := w.call(s.size, s.kind, in); e != want || len(out) != 0 {
		t.Fatalf("%s(%v, %d numbers): %d numbers, %d, want %d", w.name, s, len(in), len(out), e, want)
	}
}
