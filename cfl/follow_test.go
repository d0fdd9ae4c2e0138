package cfl_test

import (
	"slices"
	"testing"
)

// sharp are blocks of brightness that are white and black, by halves, by stripes, and of one place against all others.
func sharp(s size) [][]uint8 {
	n := s.samples()
	l := [][]uint8{
		append(alike(n/2, uint8(255)), alike(n/2, uint8(0))...),
		append(alike(n/2, uint8(0)), alike(n/2, uint8(255))...),
	}
	for place := range s.w * s.h {
		l = append(l, patch(s, 0, place, 255), patch(s, 255, place, 0))
	}
	return l
}

// steps are blocks whose mean is rounded by every part there is: so many samples are greater by 1.
func steps(s size) [][]uint8 {
	var l [][]uint8
	for many := range s.w*s.h + 1 {
		b := alike(s.samples(), uint8(40))
		for i := range many {
			b[i]++
		}
		l = append(l, b)
	}
	return l
}

// The numbers are together at most half as many as there are, either way, and each is from -2040 to 2040 (P13.4).
func TestAcNearlyNothing(t *testing.T) {
	least, greatest := 0, 0
	for _, s := range sizes() {
		for _, luma := range slices.Concat(sorts(s), sharp(s), steps(s)) {
			sum := 0
			for i, v := range ac(t, luma, s) {
				sum += v
				if v < -2040 || v > 2040 {
					t.Fatalf("%v: %d at %d", s, v, i)
				}
				least, greatest = min(least, v), max(greatest, v)
			}
			if half := s.w * s.h / 2; sum < -half || sum > half {
				t.Fatalf("%v: the sum is %d", s, sum)
			}
		}
	}
	if least != -2038 || greatest != 2038 {
		t.Errorf("from %d to %d, want as far as 2038 either way", least, greatest)
	}
}

// A block that is all alike gives noughts, whatever its sample (P13.4).
func TestAcAllAlike(t *testing.T) {
	for _, s := range sizes() {
		for v := range 256 {
			acIs(t, alike(s.samples(), uint8(v)), s, make([]int, s.w*s.h))
		}
	}
}

// To add the same to each sample changes no number (P13.4).
func TestAcRaised(t *testing.T) {
	d := draws(8)
	for _, s := range sizes() {
		for _, greatest := range []int{0, 1, 3, 55, 128, 200, 254} {
			luma := d.samples(s.samples(), 0, greatest)
			want := ac(t, luma, s)
			for more := 1; greatest+more <= 255; more++ {
				for i := range luma {
					luma[i]++
				}
				if more%9 == 1 || greatest+more == 255 {
					acIs(t, luma, s, want)
				}
			}
		}
	}
}

// With alpha 0 a prediction is the base itself, whatever the numbers (P13.5).
func TestPredictByNought(t *testing.T) {
	d := draws(9)
	for n := range most + 1 {
		base := d.samples(n, 0, 255)
		for _, l := range [][]int{make([]int, n), alike(n, 2048), alike(n, -2048), d.numbers(n, 2048)} {
			predictedIs(t, base, l, 0, base...)
		}
	}
}

// Of noughts a prediction is the base itself, whatever the alpha (P13.5).
func TestPredictOfNoughts(t *testing.T) {
	all := make([]uint8, 256)
	for v := range 256 {
		all[v] = uint8(v)
	}
	for alpha := -16; alpha <= 16; alpha++ {
		for n := range 257 {
			predictedIs(t, all[:n], make([]int, n), alpha, all[:n]...)
		}
		base := slices.Repeat(all, 4)
		predictedIs(t, base, make([]int, most), alpha, base...)
	}
}

// contrary are the numbers with the other sign.
func contrary(l []int) []int {
	var m []int
	for _, v := range l {
		m = append(m, -v)
	}
	return m
}

// every are all numbers that may be, by blocks.
func every() [][]int {
	var l []int
	for v := -2048; v <= 2048; v++ {
		l = append(l, v)
	}
	return slices.Collect(slices.Chunk(l, most))
}

// A prediction by alpha and numbers is that by -alpha and the contrary numbers (P13.5).
func TestPredictContrary(t *testing.T) {
	d := draws(10)
	for alpha := -16; alpha <= 16; alpha++ {
		for _, l := range every() {
			for _, base := range [][]uint8{d.samples(len(l), 0, 255), alike(len(l), uint8(0)), alike(len(l), uint8(255))} {
				predictedIs(t, base, contrary(l), -alpha, predicted(t, base, l, alpha)...)
			}
		}
	}
}

// Where no sample is brought back, predictions by alpha and by -alpha lie as far from the base, on either side (P13.5).
func TestPredictEitherSide(t *testing.T) {
	apart := 0
	for alpha := -16; alpha <= 16; alpha++ {
		for _, l := range every() {
			for _, v := range []uint8{100, 127, 128} {
				base := alike(len(l), v)
				x, y := predicted(t, base, l, alpha), predicted(t, base, l, -alpha)
				for i := range l {
					if p := l[i] * alpha; p < -6368 || p > 6368 {
						continue // more than 100 away
					}
					up, down := int(x[i])-int(v), int(v)-int(y[i])
					if up != down || up*l[i]*alpha < 0 {
						t.Fatalf("of %d, %d and alpha %d: %d, by the contrary alpha %d", v, l[i], alpha, x[i], y[i])
					}
					apart = max(apart, up)
				}
			}
		}
	}
	if apart != 100 {
		t.Errorf("at most %d apart, want 100", apart)
	}
}
