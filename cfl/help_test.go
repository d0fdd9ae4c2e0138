package cfl_test

import (
	"math"
	"math/bits"
	"slices"
	"testing"

	"zoetrope/api"
	"zoetrope/cfl"
)

const most = 1024 // samples of a block of colour

func sides() []int { return []int{4, 8, 12, 16, 20, 24, 28, 32} }

// size is that of a block of colour.
type size struct{ w, h int }

// sizes are all of them, mixed.
func sizes() []size {
	var l []size
	for _, w := range sides() {
		for _, h := range sides() {
			l = append(l, size{w, h})
		}
	}
	return l
}

// samples is how many samples of brightness a block of colour has.
func (s size) samples() int { return 4 * s.w * s.h }

// far are numbers far away, some of whose lower bits look as if they might be a side, a number or an alpha.
func far() []int {
	l := []int{math.MaxInt, math.MaxInt - 1, math.MaxInt - 3, math.MinInt, math.MinInt + 1, math.MinInt + 4, math.MinInt + 16, math.MinInt + 32, math.MaxInt32, math.MaxInt32 - 3, math.MinInt32, math.MinInt32 + 1, math.MinInt32 + 4, 1 << 30, -1 << 30, 1<<30 + 4}
	if bits.UintSize > 32 {
		for _, v := range []int{0, 1, 4, 8, 16, 32, -1, -4, -16} {
			for at := 32; at < bits.UintSize; at++ {
				l = append(l, v+1<<at, v-1<<at)
			}
		}
	}
	return l
}

// noSides are numbers below 0, 0, those just beside each side, and others that are none.
func noSides() []int {
	l := []int{-36, -32, -16, -8, -5, -4, -3, -2, -1, 0, 36, 40, 44, 48, 60, 64, 96, 128, 252, 256, 260, 264, 288, 1 << 10, 1<<16 + 4}
	for n := range 70 {
		if !slices.Contains(sides(), n) {
			l = append(l, n)
		}
	}
	return append(l, far()...)
}

// noNumbers are beyond what goes into colours, noAlphas beyond what alphas may be.
func noNumbers() []int {
	return append([]int{2049, 2050, 2051, 4096, 1 << 16, 1<<16 + 1, -2049, -2050, -2051, -4096, -1 << 16, 1 - 1<<16}, far()...)
}

func noAlphas() []int {
	return append([]int{17, 18, 20, 31, 32, 240, 255, 256, 257, 272, 1 << 16, -17, -18, -20, -31, -32, -240, -255, -256, -257, -1 << 16}, far()...)
}

// draws is a row of numbers that look mixed and are always the same.
type draws uint64

func (d *draws) below(n int) int {
	*d = *d*6364136223846793005 + 1442695040888963407
	return int(uint64(*d) >> 33 % uint64(n))
}

// samples are n samples, each of them from least to greatest.
func (d *draws) samples(n, least, greatest int) []uint8 {
	l := make([]uint8, n)
	for i := range l {
		l[i] = uint8(least + d.below(greatest-least+1))
	}
	return l
}

// numbers are n numbers, at most so far from 0.
func (d *draws) numbers(n, away int) []int {
	l := make([]int, n)
	for i := range l {
		l[i] = d.below(2*away+1) - away
	}
	return l
}

// alike are n times one thing.
func alike[T any](n int, v T) []T { return slices.Repeat([]T{v}, n) }

// but are n times one thing, but for one place, which has another one.
func but[T any](n int, other T, at int, v T) []T {
	l := alike(n, other)
	l[at] = v
	return l
}

// sorts are blocks of brightness of all sorts.
func sorts(s size) [][]uint8 {
	n := s.samples()
	d := draws(100*s.w + s.h)
	l := [][]uint8{alike(n, uint8(0)), alike(n, uint8(1)), alike(n, uint8(128)), alike(n, uint8(255))}
	rows, columns, checks := make([]uint8, n), make([]uint8, n), make([]uint8, n)
	for i := range n {
		x, y := i%(2*s.w), i/(2*s.w)
		rows[i], columns[i], checks[i] = uint8(3*y), uint8(255-3*x), uint8(255*((x/2+y/2)%2))
	}
	l = append(l, rows, columns, checks)
	for range 4 {
		l = append(l, d.samples(n, 0, 255), d.samples(n, 0, 1), d.samples(n, 254, 255), d.samples(n, 90, 110))
	}
	return l
}

// model is what goes into colours: each sample of brightness is laid on its place, and the mean is gone to step by step.
func model(luma []uint8, s size) []int {
	l := make([]int, s.w*s.h)
	rest := s.w * s.h / 2
	for i, v := range luma {
		x, y := i%(2*s.w), i/(2*s.w)
		l[y/2*s.w+x/2] += int(v) + int(v)
		rest += int(v) + int(v)
	}
	mean := counted(rest, len(l))
	for i := range l {
		l[i] -= mean
	}
	return l
}

// counted is how often a part can be taken off.
func counted(rest, part int) int {
	many := 0
	for ; rest >= part; rest -= part {
		many++
	}
	return many
}

// moved is how far a number moves a sample.
func moved(number, alpha int) int {
	if p := number * alpha; p < 0 {
		return -counted(32-p, 64)
	} else {
		return counted(32+p, 64)
	}
}

// between is a sample that may have left 0 to 255.
func between(v int) uint8 {
	if v < 0 {
		return 0
	}
	if v > 255 {
		return 255
	}
	return uint8(v)
}

// ac is what goes into colours, where there must be something.
func ac(t *testing.T, luma []uint8, s size) []int {
	t.Helper()
	l, e := cfl.Ac(luma, s.w, s.h)
	if e != api.OK || len(l) != s.w*s.h {
		t.Fatalf("Ac(%d samples, %d, %d): %d numbers, %d", len(luma), s.w, s.h, len(l), e)
	}
	return l
}

// acIs asks for just these numbers.
func acIs(t *testing.T, luma []uint8, s size, want []int) {
	t.Helper()
	if l := ac(t, luma, s); !slices.Equal(l, want) {
		t.Fatalf("Ac(%v, %d, %d): %v, want %v", luma, s.w, s.h, l, want)
	}
}

// acRefused asks for ErrArg, and for nothing beside it.
func acRefused(t *testing.T, luma []uint8, w, h int) {
	t.Helper()
	if l, e := cfl.Ac(luma, w, h); e != api.ErrArg || len(l) != 0 {
		t.Fatalf("Ac(%d samples, %d, %d): %d numbers, %d", len(luma), w, h, len(l), e)
	}
}

// predicted is a prediction that there must be.
func predicted(t *testing.T, base []uint8, ac []int, alpha int) []uint8 {
	t.Helper()
	l, e := cfl.Predict(base, ac, alpha)
	if e != api.OK || len(l) != len(base) {
		t.Fatalf("Predict(%v, %v, %d): %d samples, %d", base, ac, alpha, len(l), e)
	}
	return l
}

// predictedIs asks for just these samples.
func predictedIs(t *testing.T, base []uint8, ac []int, alpha int, want ...uint8) {
	t.Helper()
	if l := predicted(t, base, ac, alpha); !slices.Equal(l, want) {
		t.Fatalf("Predict(%v, %v, %d): %v, want %v", base, ac, alpha, l, want)
	}
}

// refused asks for ErrArg, and for nothing beside it.
func refused(t *testing.T, base []uint8, ac []int, alpha int) {
	t.Helper()
	if l, e := cfl.Predict(base, ac, alpha); e != api.ErrArg || len(l) != 0 {
		t.Fatalf("Predict(%d samples, %d numbers, %d): %d samples, %d", len(base), len(ac), alpha, len(l), e)
	}
}
