package cfl_test

import (
	"math"
	"slices"
	"testing"
)

// Of every size as many samples as it has, and none more or less (P13.1).
func TestAcLengths(t *testing.T) {
	for _, s := range sizes() {
		n := s.samples()
		room := alike(2*n, uint8(7))
		ac(t, room[:n:n], s)
		ac(t, room[:n], s) // spare room counts for nothing
		for _, many := range []int{0, 1, n / 4, n / 2, n - 4, n - 2, n - 1, n + 1, n + 2, n + 4, 2 * n} {
			acRefused(t, room[:many:many], s.w, s.h)
			acRefused(t, room[:many], s.w, s.h)
		}
		acRefused(t, nil, s.w, s.h)
	}
}

// Samples of one size are none of another, unless it has as many (P13.1).
func TestAcOtherSizes(t *testing.T) {
	for _, s := range sizes() {
		l := alike(s.samples(), uint8(3))
		for _, o := range sizes() {
			if o.w*o.h == s.w*s.h {
				ac(t, l, o)
			} else {
				acRefused(t, l, o.w, o.h)
			}
		}
	}
}

// Numbers that are no side, on either place or on both, with as many samples as they would ask for where that can be (P13.1).
func TestAcNoSides(t *testing.T) {
	some := alike(64, uint8(5))
	for _, n := range noSides() {
		for _, side := range append(sides(), n) {
			for _, l := range [][]uint8{nil, {}, some} {
				acRefused(t, l, n, side)
				acRefused(t, l, side, n)
			}
			// as far out as numbers go 4 w h wraps round, and so may a length that looks right
			if many := 4 * n * side; many >= 0 && many <= 1<<16 {
				acRefused(t, make([]uint8, many), n, side)
				acRefused(t, make([]uint8, many), side, n)
			}
		}
	}
}

// Two wrong numbers are no better than one (P13.1).
func TestAcBothSidesWrong(t *testing.T) {
	for _, w := range noSides() {
		for _, h := range []int{0, -4, -1, 2, 5, 36, 64, math.MaxInt, math.MinInt} {
			for _, l := range [][]uint8{nil, alike(64, uint8(5)), alike(16, uint8(5))} {
				acRefused(t, l, w, h)
				acRefused(t, l, h, w)
			}
		}
	}
	for _, n := range []int{-4, -8, -32} {
		acRefused(t, make([]uint8, 4*n*n), n, n)
	}
	acRefused(t, make([]uint8, 64), 2, 8) // as many as 4 by 4 has
	acRefused(t, make([]uint8, 64), 16, 1)
	acRefused(t, make([]uint8, 4096), 64, 16)
	acRefused(t, make([]uint8, 4096), 16, 64)
}

// Every pair of numbers about the sides (P13.1).
func TestAcEveryPair(t *testing.T) {
	for w := -2; w < 42; w++ {
		for h := -2; h < 42; h++ {
			l := make([]uint8, max(0, 4*w*h))
			if slices.Contains(sides(), w) && slices.Contains(sides(), h) {
				ac(t, l, size{w, h})
			} else {
				acRefused(t, l, w, h)
			}
		}
	}
}

// As many numbers as samples, and at most 1024 (P13.2).
func TestPredictLengths(t *testing.T) {
	for _, n := range []int{0, 1, 2, 15, 16, 17, 1023, 1024} {
		predicted(t, alike(n, uint8(9)), alike(n, 9), 1)
		predicted(t, alike(n+9, uint8(9))[:n], alike(n+9, 9)[:n], 1) // spare room counts for nothing
		for _, other := range []int{0, 1, 2, 15, 16, 17, n - 1, n + 1, 1023, 1024, 1025, 2048} {
			if other != n && other >= 0 {
				refused(t, alike(n, uint8(9)), alike(other, 9), 1)
				refused(t, alike(n+9, uint8(9))[:n], alike(other+n, 9)[:other], 1)
			}
		}
	}
	refused(t, nil, []int{1}, 1)
	refused(t, []uint8{1}, nil, 1)
	for _, n := range []int{1025, 1026, 1040, 2048, 4096, 65536, 1<<16 + 1} {
		for _, alpha := range []int{0, 1, -16, 16} {
			refused(t, alike(n, uint8(9)), alike(n, 9), alpha)
			refused(t, alike(n, uint8(9)), make([]int, n), alpha)
		}
		refused(t, alike(n, uint8(9)), nil, 1)
		refused(t, alike(n, uint8(9)), alike(1024, 9), 1)
	}
}

// Numbers at both ends, and beyond them, wherever they stand (P13.2).
func TestPredictNumbers(t *testing.T) {
	for _, n := range []int{1, 2, 3, 16, 17, 1023, 1024} {
		for _, at := range []int{0, n / 2, n - 1} {
			for _, alpha := range []int{0, 1, -1, 16, -16} {
				for _, v := range []int{2048, 2047, -2047, -2048} {
					predicted(t, alike(n, uint8(100)), but(n, 0, at, v), alpha)
				}
				for _, v := range noNumbers() {
					refused(t, alike(n, uint8(100)), but(n, 0, at, v), alpha)
				}
			}
			refused(t, alike(n, uint8(100)), alike(n, 2049), 0)
		}
	}
	for at := range 64 {
		refused(t, alike(64, uint8(100)), but(64, 2048, at, 2049), 1)
		refused(t, alike(64, uint8(100)), but(64, -2048, at, -2049), 1)
	}
}

// Alphas from -16 to 16, and beyond them, even where nothing is moved (P13.2).
func TestPredictAlphas(t *testing.T) {
	for alpha := -300; alpha <= 300; alpha++ {
		for _, n := range []int{0, 1, 16, 1024} {
			for _, v := range []int{0, 1, -2048} {
				if alpha >= -16 && alpha <= 16 {
					predicted(t, alike(n, uint8(1)), alike(n, v), alpha)
				} else {
					refused(t, alike(n, uint8(1)), alike(n, v), alpha)
				}
			}
		}
	}
	for _, alpha := range noAlphas() {
		refused(t, nil, nil, alpha)
		refused(t, []uint8{1}, []int{0}, alpha)
		refused(t, []uint8{1, 2}, []int{1, -1}, alpha)
	}
}

// Where several things are wrong, one error is told, and nothing beside it: all that are looked for are ErrArg (P13.1, P13.2).
func TestSeveralWrong(t *testing.T) {
	bases := [][]uint8{nil, {1}, {1, 2}, alike(1024, uint8(1)), alike(1025, uint8(1))}
	lists := [][]int{nil, {1}, {2049}, {1, -2049}, {math.MinInt, 1}, alike(1024, 1), but(1024, 1, 1023, 2049), alike(1025, 1), alike(1025, -2049)}
	right := 0
	for _, base := range bases {
		for _, l := range lists {
			beyond := func(v int) bool { return v < -2048 || v > 2048 }
			for _, alpha := range []int{0, 16, -16, 17, -17, math.MaxInt, math.MinInt} {
				if len(base) <= most && len(l) == len(base) && !slices.ContainsFunc(l, beyond) && alpha >= -16 && alpha <= 16 {
					predicted(t, base, l, alpha)
					right++
				} else {
					refused(t, base, l, alpha)
				}
			}
		}
	}
	if right != 9 {
		t.Errorf("%d calls are right, want 9", right)
	}
	for _, l := range [][]uint8{nil, {1}, alike(63, uint8(1)), alike(64, uint8(1))} {
		for _, n := range []int{0, -4, 5, 36, math.MaxInt, math.MinInt} {
			acRefused(t, l, n, n)
			acRefused(t, l, n, 5)
			acRefused(t, l, 3, n)
		}
	}
}
