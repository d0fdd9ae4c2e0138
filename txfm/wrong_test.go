package txfm_test

import (
	"math"
	"slices"
	"testing"

	"zoetrope/api"
)

// Of sizes that are none nothing is answered but ErrArg, whatever stands beside them: it is looked for ahead of the kind (P8.2, P8.3).
func TestWrongSizes(t *testing.T) {
	for _, w := range ways() {
		for _, size := range noSizes() {
			for _, kind := range append(noKinds(), 0, 1, 8, 9) {
				for _, n := range []int{0, 1, 16, 25, 64} {
					refused(t, w, shape{size, kind}, make([]int, n), api.ErrArg)
					refused(t, w, shape{size, kind}, alike(n, math.MaxInt), api.ErrArg)
				}
			}
		}
	}
}

// Kinds that a size has not are ErrType, ahead of what is wrong with the numbers (P8.2, P8.3).
func TestWrongKinds(t *testing.T) {
	for _, size := range sizes() {
		l := noKinds()
		for kind := range 10 {
			if !slices.Contains(had()[size], kind) {
				l = append(l, kind)
			}
		}
		for _, w := range ways() {
			for _, kind := range l {
				for _, n := range []int{0, 1, w.many(size) - 1, w.many(size), w.many(size) + 1} {
					refused(t, w, shape{size, kind}, make([]int, n), api.ErrType)
					refused(t, w, shape{size, kind}, alike(n, w.most+1), api.ErrType)
					refused(t, w, shape{size, kind}, alike(n, math.MinInt), api.ErrType)
				}
			}
		}
	}
}

// Lists of too few and too many numbers, none and those of other sizes among them (P8.2, P8.3).
func TestWrongLengths(t *testing.T) {
	for _, s := range shapes() {
		for _, w := range ways() {
			n := w.many(s.size)
			for _, m := range []int{0, 1, 2, 15, 16, 17, 32, 63, 64, 65, 255, 256, 257, 1023, 1024, 1025, 2048, 4095, 4096, 4097, 16384, s.size, n - s.size, n + s.size, n - 1, n + 1, 2 * n} {
				if m != n {
					refused(t, w, s, make([]int, m), api.ErrArg)
					refused(t, w, s, alike(m, w.most+1), api.ErrArg)
				}
			}
			refused(t, w, s, nil, api.ErrArg)
		}
	}
}

// A number beyond what may be, at each place of a block, either way (P8.2, P8.3). At both ends themselves blocks are answered: see TestEachPlace.
func TestWrongNumbers(t *testing.T) {
	for _, s := range shapes() {
		for _, w := range ways() {
			n := w.many(s.size)
			for at := range n {
				for _, v := range []int{w.most + 1, -w.most - 1, math.MaxInt, math.MinInt, 1 << 32, -1 << 32} {
					refused(t, w, s, single(n, at, v), api.ErrArg)
				}
			}
			in := alike(n, -w.most)
			in[n-1] = w.most + 1
			refused(t, w, s, in, api.ErrArg)
		}
	}
}
