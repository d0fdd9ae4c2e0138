package motion_test

import (
	"slices"
	"testing"

	"zoetrope/api"
	"zoetrope/motion"
)

// pairIs asks for just these samples.
func pairIs(t *testing.T, a, b []uint8, want ...uint8) {
	t.Helper()
	if l, e := motion.Pair(a, b); e != api.OK || !slices.Equal(l, want) {
		t.Fatalf("Pair(%v, %v): %v, %d, want %v", a, b, l, e, want)
	}
}

func noPair(t *testing.T, a, b []uint8) {
	t.Helper()
	if l, e := motion.Pair(a, b); e != api.ErrArg || len(l) != 0 {
		t.Fatalf("Pair of %d and %d: %d samples, %d", len(a), len(b), len(l), e)
	}
}

// The chapter's rows of pairs (P15.2).
func TestExamplesOfPair(t *testing.T) {
	pairIs(t, []uint8{0, 1, 255}, []uint8{1, 2, 255}, 1, 2, 255)
	noPair(t, []uint8{1}, nil)
}

// Every two samples: the mean, up from the middle (P15.2).
func TestPairOfEveryTwo(t *testing.T) {
	for a := range 256 {
		own := alike(256, uint8(a))
		var other, want []uint8
		for b := range 256 {
			other = append(other, uint8(b))
			low, high := min(a, b), max(a, b)
			for low < high { // from both ends to the middle, whose upper one it is
				low, high = low+1, high-1
			}
			want = append(want, uint8(low))
		}
		pairIs(t, own, other, want...)
		pairIs(t, other, own, want...)
	}
	pairIs(t, []uint8{0, 255, 0, 255, 254, 255, 0, 1}, []uint8{0, 255, 255, 0, 255, 254, 1, 0}, 0, 255, 128, 128, 255, 255, 1, 1)
}

// Lists of none, of one and of many samples (P15.2).
func TestPairOfLists(t *testing.T) {
	for _, a := range [][]uint8{nil, {}, make([]uint8, 0, 9)} {
		for _, b := range [][]uint8{nil, {}, make([]uint8, 0, 9)} {
			pairIs(t, a, b)
		}
	}
	pairIs(t, []uint8{4}, []uint8{7}, 6)
	d := draws(61)
	for _, n := range []int{1, 2, 3, 4, 7, 8, 15, 16, 17, 31, 64, 100, 4095, 4096, 4097, 65536, 100000} {
		a, b := d.samples(n), d.samples(n)
		var want []uint8
		for i := range a {
			want = append(want, uint8(rounded(int(a[i])+int(b[i]), 2)))
		}
		pairIs(t, a, b, want...)
	}
}

// Lists of different lengths, whichever is the longer one; spare room counts for nothing (P15.2).
func TestPairOfDifferentLengths(t *testing.T) {
	room := make([]uint8, 300)
	for _, m := range []int{0, 1, 2, 3, 16, 63, 64, 255, 256, 257} {
		for _, n := range []int{0, 1, 2, 3, 16, 63, 64, 255, 256, 257} {
			if m == n {
				pairIs(t, room[:m], room[:n], make([]uint8, n)...)
				continue
			}
			noPair(t, room[:m], room[:n])
			noPair(t, slices.Clip(room[:m]), slices.Clip(room[:n]))
			noPair(t, make([]uint8, m), make([]uint8, n, 300))
		}
	}
	noPair(t, nil, []uint8{1})
	noPair(t, []uint8{1}, []uint8{})
}
