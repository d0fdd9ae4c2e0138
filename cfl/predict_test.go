package cfl_test

import (
	"testing"

	"zoetrope/api"
	"zoetrope/cfl"
)

// The chapter's rows of predictions (P13.2).
func TestExamplesOfPredict(t *testing.T) {
	predictedIs(t, []uint8{100, 100, 100}, []int{40, -40, 3}, 2, 101, 99, 100)
	predictedIs(t, []uint8{100}, []int{40}, -16, 90)
	predictedIs(t, []uint8{250, 5}, []int{2048, -2048}, 16, 255, 0)
	predictedIs(t, []uint8{100}, []int{16}, 2, 101)
	predictedIs(t, []uint8{100}, []int{15}, 2, 100)
	predictedIs(t, []uint8{100}, []int{-16}, 2, 99)
	refused(t, []uint8{1, 2}, []int{1}, 1)
	refused(t, []uint8{1}, []int{2049}, 1)
	refused(t, []uint8{1}, []int{1}, 17)
}

// On either side of 0, at the middle and just beside it (P13.2).
func TestPredictRounded(t *testing.T) {
	base := alike(16, uint8(100))
	l := []int{31, 32, 33, 63, 64, 65, 95, 96, -31, -32, -33, -63, -64, -65, -95, -96}
	predictedIs(t, base, l, 1, 100, 101, 101, 101, 101, 101, 101, 102, 100, 99, 99, 99, 99, 99, 99, 98)
	predictedIs(t, base, l, -1, 100, 99, 99, 99, 99, 99, 99, 98, 100, 101, 101, 101, 101, 101, 101, 102)
	odd := []int{10, 11, 31, 32, 53, 54, -10, -11, -31, -32, -53, -54}
	predictedIs(t, base[:12], odd, 3, 100, 101, 101, 102, 102, 103, 100, 99, 99, 98, 98, 97) // 30 33 93 96 159 162
	predictedIs(t, base[:12], odd, -3, 100, 99, 99, 98, 98, 97, 100, 101, 101, 102, 102, 103)
	predictedIs(t, base[:8], []int{1, 2, 3, 5, 6, -1, -2, -6}, 16, 100, 101, 101, 101, 102, 100, 99, 98) // 16 32 48 80 96
}

// What leaves 0 to 255 is brought back, and what does not is left (P13.2).
func TestPredictBroughtBack(t *testing.T) {
	predictedIs(t, []uint8{0, 1, 2, 3, 0}, []int{-128, -128, -128, -128, -31}, 1, 0, 0, 0, 1, 0)
	predictedIs(t, []uint8{255, 254, 253, 252, 255}, []int{128, 128, 128, 128, 31}, 1, 255, 255, 255, 254, 255)
	predictedIs(t, []uint8{0, 255, 0, 255}, []int{2048, 2048, -2048, -2048}, 16, 255, 255, 0, 0)
	predictedIs(t, []uint8{0, 255, 0, 255}, []int{2048, 2048, -2048, -2048}, -16, 0, 0, 255, 255)
	predictedIs(t, []uint8{0, 255}, []int{1020, -1020}, 16, 255, 0)
	predictedIs(t, []uint8{0, 255}, []int{1016, -1016}, 16, 254, 1)
	predictedIs(t, []uint8{0, 1, 255, 254}, []int{1024, 1020, -1024, -1020}, 16, 255, 255, 0, 0)
}

// Every sample with every number and every alpha (P13.2).
func TestPredictAll(t *testing.T) {
	for alpha := -16; alpha <= 16; alpha++ {
		for from := -2048; from <= 2048; from += 4 {
			var base []uint8
			var l []int
			for number := from; number < min(from+4, 2049); number++ {
				for v := range 256 {
					base, l = append(base, uint8(v)), append(l, number)
				}
			}
			got := predicted(t, base, l, alpha)
			for i := 0; i < len(l); i += 256 {
				by := moved(l[i], alpha)
				for v, p := range got[i : i+256] {
					if p != between(v+by) {
						t.Fatalf("Predict(%d, %d, %d): %d, want %d", v, l[i], alpha, p, between(v+by))
					}
				}
			}
		}
	}
}

// Each sample is moved by the number at its place, whichever stand beside it; blocks of every length (P13.2).
func TestPredictPlaces(t *testing.T) {
	d := draws(2)
	for n := range most + 1 {
		base, l, alpha := d.samples(n, 0, 255), d.numbers(n, 2048), d.below(33)-16
		if n%2 > 0 {
			l = d.numbers(n, 300)
		}
		for i, v := range predicted(t, base, l, alpha) {
			if v != between(int(base[i])+moved(l[i], alpha)) {
				t.Fatalf("%d samples: at %d %d", n, i, v)
			}
		}
	}
}

// What Ac answers may be handed to Predict, of every size (P13.1, P13.2).
func TestPredictOutOfAc(t *testing.T) {
	d := draws(3)
	for _, s := range sizes() {
		for _, luma := range sorts(s) {
			l, alpha := ac(t, luma, s), d.below(33)-16
			base := d.samples(len(l), 0, 255)
			for i, v := range predicted(t, base, l, alpha) {
				if v != between(int(base[i])+moved(l[i], alpha)) {
					t.Fatalf("%v, alpha %d: at %d %d", s, alpha, i, v)
				}
			}
		}
	}
}

// A block without samples is one, whether its lists are nil or not (P13.2).
func TestPredictOfNone(t *testing.T) {
	for alpha := -16; alpha <= 16; alpha++ {
		for _, base := range [][]uint8{nil, {}, alike(4, uint8(9))[:0]} {
			for _, l := range [][]int{nil, {}, alike(4, 4000)[:0]} {
				if got, e := cfl.Predict(base, l, alpha); e != api.OK || len(got) != 0 {
					t.Fatalf("Predict of none, alpha %d: %v, %d", alpha, got, e)
				}
			}
		}
	}
}
