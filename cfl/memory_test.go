package cfl_test

import (
	"slices"
	"testing"

	"zoetrope/cfl"
)

// roomy is a list with spare room behind its elements, and that room as a whole.
func roomy[T any](in []T, spare ...T) (l, room []T) {
	room = append(slices.Clone(in), spare...)
	return room[:len(in)], room
}

// overwrite fills a list, its spare room too.
func overwrite[T any](l []T, v T) {
	l = l[:cap(l)]
	for i := range l {
		l[i] = v
	}
}

// Brightness is only read, its spare room neither read nor written, whether it is refused or not (P13.3).
func TestLumaOnlyRead(t *testing.T) {
	d := draws(4)
	for _, s := range append(sizes(), size{5, 4}, size{4, 36}, size{0, 0}, size{-4, -4}) {
		n := max(s.samples(), 0)
		for _, many := range []int{n, n + 1, max(n-1, 0), 0} {
			in := d.samples(many, 0, 255)
			l, room := roomy(in, 255, 0, 77, 255, 1, 2, 3)
			before := slices.Clone(room)
			x, e := cfl.Ac(l, s.w, s.h)
			y, f := cfl.Ac(slices.Clip(in), s.w, s.h)
			if !slices.Equal(room, before) {
				t.Fatalf("%v, %d samples: changed", s, many)
			}
			if !slices.Equal(x, y) || e != f {
				t.Fatalf("%v, %d samples: with spare room something else", s, many)
			}
		}
	}
}

// Base and numbers are only read, their spare room neither read nor written, whether they are refused or not (P13.3).
func TestBaseAndNumbersOnlyRead(t *testing.T) {
	d := draws(5)
	for _, n := range []int{0, 1, 2, 16, 17, 256, 1023, 1024, 1025} {
		for _, many := range []int{n, n + 1} {
			for _, alpha := range []int{0, 1, -7, 16, 17, -17} {
				for _, away := range []int{300, 2048, 2500} {
					samples, numbers := d.samples(n, 0, 255), d.numbers(many, away)
					base, room := roomy(samples, 255, 0, 77, 255)
					l, more := roomy(numbers, 5000, -5000, 2048, 1)
					before, been := slices.Clone(room), slices.Clone(more)
					x, e := cfl.Predict(base, l, alpha)
					y, f := cfl.Predict(slices.Clip(samples), slices.Clip(numbers), alpha)
					if !slices.Equal(room, before) || !slices.Equal(more, been) {
						t.Fatalf("%d samples, %d numbers, alpha %d: changed", n, many, alpha)
					}
					if !slices.Equal(x, y) || e != f {
						t.Fatalf("%d samples, %d numbers, alpha %d: with spare room something else", n, many, alpha)
					}
				}
			}
		}
	}
}

// What Ac answers is new memory: neither another answer changes with it, nor what was handed in (P13.3).
func TestNumbersAreNew(t *testing.T) {
	for _, s := range sizes() {
		for _, luma := range sorts(s) {
			keep := slices.Clone(luma)
			a, b := ac(t, luma, s), ac(t, luma, s)
			want := slices.Clone(a)
			overwrite(a, 9999)
			if !slices.Equal(luma, keep) || !slices.Equal(b, want) {
				t.Fatalf("%v: an answer shares memory", s)
			}
			overwrite(luma, 7)
			if !slices.Equal(b, want) {
				t.Fatalf("%v: an answer changes with what was handed in", s)
			}
			acIs(t, keep, s, want)
		}
	}
}

// What Predict answers is new memory, even where it is the base itself (P13.3).
func TestPredictionsAreNew(t *testing.T) {
	d := draws(6)
	for _, n := range []int{1, 2, 16, 17, 256, 1024} {
		for alpha := -16; alpha <= 16; alpha++ {
			for _, l := range [][]int{make([]int, n), d.numbers(n, 300), d.numbers(n, 2048)} {
				base := d.samples(n, 0, 255)
				base, _ = roomy(base, 1, 2, 3, 4)
				keep, numbers := slices.Clone(base), slices.Clone(l)
				a, b := predicted(t, base, l, alpha), predicted(t, base, l, alpha)
				want := slices.Clone(a)
				for i := range a[:cap(a)] {
					a[:cap(a)][i] ^= 255
				}
				if !slices.Equal(base, keep) || !slices.Equal(l, numbers) || !slices.Equal(b, want) {
					t.Fatalf("%d samples, alpha %d: an answer shares memory", n, alpha)
				}
				overwrite(base, 7)
				overwrite(l, 5)
				if !slices.Equal(b, want) {
					t.Fatalf("%d samples, alpha %d: an answer changes with what was handed in", n, alpha)
				}
				predictedIs(t, keep, numbers, alpha, want...)
			}
		}
	}
}

// Nothing is kept: the same call answers the same again, whatever was asked between, refused among it (R2).
func TestNothingIsKept(t *testing.T) {
	d := draws(7)
	for _, s := range sizes() {
		luma, base, alpha := d.samples(s.samples(), 0, 255), d.samples(s.w*s.h, 0, 255), d.below(33)-16
		numbers := ac(t, luma, s)
		want := predicted(t, base, numbers, alpha)
		for range 3 {
			overwrite(ac(t, d.samples(s.samples(), 0, 255), s), 3)
			overwrite(predicted(t, d.samples(len(base), 0, 255), d.numbers(len(base), 2048), -alpha), 3)
			acRefused(t, luma, s.w+1, s.h)
			refused(t, base, numbers, 17)
			acIs(t, luma, s, numbers)
			predictedIs(t, base, numbers, alpha, want...)
		}
	}
}
