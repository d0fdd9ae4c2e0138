package cfl_test

import (
	"slices"
	"testing"
)

// The chapter's rows of what goes into colours (P13.1).
func TestExamplesOfAc(t *testing.T) {
	s := size{4, 4}
	acIs(t, alike(64, uint8(9)), s, make([]int, 16))
	acIs(t, append(alike(32, uint8(0)), alike(32, uint8(10))...), s, append(alike(8, -40), alike(8, 40)...))
	acRefused(t, alike(63, uint8(9)), 4, 4)
	acRefused(t, alike(64, uint8(9)), 5, 4)
	acRefused(t, alike(80, uint8(9)), 5, 4)
}

// patch is a block of brightness of which one place of colour has a sample of its own, four times.
func patch(s size, other uint8, place int, v uint8) []uint8 {
	l := alike(s.samples(), other)
	at := place/s.w*4*s.w + place%s.w*2
	l[at], l[at+1], l[at+2*s.w], l[at+2*s.w+1] = v, v, v, v
	return l
}

// Blocks worked out by hand (P13.1).
func TestAcByHand(t *testing.T) {
	s := size{4, 4}
	// columns 0 to 7: twice 2, 10, 18 and 26, about 28
	acIs(t, slices.Repeat([]uint8{0, 1, 2, 3, 4, 5, 6, 7}, 8), s, slices.Repeat([]int{-24, -8, 8, 24}, 4))
	var rows []uint8
	for y := range 8 {
		rows = append(rows, alike(8, uint8(y))...)
	}
	acIs(t, rows, s, []int{-24, -24, -24, -24, -8, -8, -8, -8, 8, 8, 8, 8, 24, 24, 24, 24})
	// a half is white: 2040 and 0, about 1020
	acIs(t, slices.Repeat([]uint8{255, 255, 255, 255, 0, 0, 0, 0}, 8), s, slices.Repeat([]int{1020, 1020, -1020, -1020}, 4))
	// one place of 16 is white, or black: 127.5 is rounded up, and 1912.5
	acIs(t, patch(s, 0, 0, 255), s, but(16, -128, 0, 1912))
	acIs(t, patch(s, 255, 15, 0), s, but(16, 127, 15, -1913))
	// of 1024 places: 1.9921875 is rounded up, 2038.0078125 down
	acIs(t, patch(size{32, 32}, 0, 1023, 255), size{32, 32}, but(1024, -2, 1023, 2038))
	acIs(t, patch(size{32, 32}, 255, 0, 0), size{32, 32}, but(1024, 2, 0, -2038))
	// rows are as long as w says, not h: of 8 by 4 and of 4 by 8 the same samples
	l := append(alike(16, uint8(8)), alike(112, uint8(0))...)
	acIs(t, l, size{8, 4}, append(alike(8, 24), alike(24, -8)...))
	acIs(t, l, size{4, 8}, append(alike(4, 56), alike(28, -8)...))
}

// Every size, of samples of all sorts: all 0 and all 255 among them (P13.1).
func TestAcOfEverySize(t *testing.T) {
	for _, s := range sizes() {
		for _, l := range sorts(s) {
			acIs(t, l, s, model(l, s))
		}
	}
}

// Each sample counts at its own place of colour, twice, and in the mean alone at all others (P13.1).
func TestAcPlaces(t *testing.T) {
	for _, s := range sizes() {
		n := s.w * s.h
		mean := counted(400+n/2, n)
		l := make([]uint8, s.samples())
		for i := range l {
			l[i] = 200
			got, place := ac(t, l, s), i/(4*s.w)*s.w+i%(2*s.w)/2
			l[i] = 0
			for j, v := range got {
				if j == place {
					v -= 400
				}
				if v != -mean {
					t.Fatalf("%v, sample %d: at %d %d, where the mean is %d", s, i, j, got[j], mean)
				}
			}
		}
	}
}

// The mean goes up from the middle on, at every size and wherever it stands (P13.1).
func TestAcMeanRounded(t *testing.T) {
	for _, s := range sizes() {
		n := s.w * s.h
		for _, v := range []uint8{0, 1, 100, 253, 254} {
			for _, x := range []struct{ more, up int }{{0, 0}, {1, 0}, {n/4 - 1, 0}, {n / 4, 1}, {n/4 + 1, 1}, {n/2 - 1, 1}, {n / 2, 1}, {n/2 + 1, 1}, {3*n/4 - 1, 1}, {3 * n / 4, 2}, {3*n/4 + 1, 2}} {
				l := alike(s.samples(), v)
				for i := range x.more {
					l[i]++ // each adds 2 to the sum
				}
				// the last place has nothing more than v
				if got := ac(t, l, s)[n-1]; got != -x.up {
					t.Fatalf("%v, of %d with %d samples greater: the mean is moved by %d, want %d", s, v, x.more, -got, x.up)
				}
			}
		}
	}
}
