package score_test

import (
	"math"
	"slices"
	"testing"

	"zoetrope/api"
	"zoetrope/score"
)

// first is the place of the first number that no other one is less than; -1, where there is none.
func first(l []float64) int {
	for i, x := range l {
		if x == x && !slices.ContainsFunc(l, func(y float64) bool { return y < x }) {
			return i
		}
	}
	return -1
}

// best tries a list.
func best(t *testing.T, l []float64) {
	t.Helper()
	want, e := first(l), api.OK
	if want < 0 {
		want, e = 0, api.ErrArg
	}
	if i, f := score.Best(l...); i != want || f != e {
		t.Errorf("Best(%v): got %d, %d, want %d, %d", l, i, f, want, e)
	}
}

// The chapter's row of lists, with the error's number (P6.3).
func TestBestExamples(t *testing.T) {
	none := math.NaN()
	for _, x := range []struct {
		l []float64
		i int
		e api.Errno
	}{
		{[]float64{3, 1, 1, none}, 1, 0}, {[]float64{none, 0, minusZero()}, 1, 0}, {nil, 0, 2}, {[]float64{none, none}, 0, 2}, {[]float64{infinite(), -infinite()}, 1, 0},
	} {
		if i, e := score.Best(x.l...); i != x.i || e != x.e {
			t.Errorf("Best(%v): got %d, %d, want %d, %d", x.l, i, e, x.i, x.e)
		}
	}
}

// Lists by hand: equal numbers, 0 and -0 among them, infinite ones, and none ahead and behind (P6.3).
func TestBestByHand(t *testing.T) {
	none, inf := math.NaN(), infinite()
	for _, x := range []struct {
		l []float64
		i int
	}{
		{[]float64{5}, 0}, {[]float64{-5}, 0}, {[]float64{inf}, 0}, {[]float64{-inf}, 0}, {[]float64{0, minusZero()}, 0}, {[]float64{minusZero(), 0}, 0}, {[]float64{1, 0, minusZero(), 0}, 1}, {[]float64{1, minusZero(), 0, minusZero()}, 1},
		{[]float64{inf, inf}, 0}, {[]float64{-inf, -inf}, 0}, {[]float64{none, inf}, 1}, {[]float64{none, inf, inf}, 1}, {[]float64{inf, none, math.MaxFloat64}, 2}, {[]float64{-math.MaxFloat64, -inf}, 1}, {[]float64{-inf, -math.MaxFloat64}, 0},
		{[]float64{2, none, 1}, 2}, {[]float64{none, none, 4, none, 3, none}, 4}, {[]float64{1, none, 2}, 0}, {[]float64{2, 2, 2}, 0}, {[]float64{3, 2, 2, 3, 2}, 1}, {[]float64{least(), 0}, 1}, {[]float64{0, least()}, 0}, {[]float64{0, -least()}, 1}, {[]float64{minusZero(), -least()}, 1},
		{[]float64{1, math.Nextafter(1, 0), 1}, 1}, {[]float64{math.Nextafter(1, 2), 1}, 1}, {[]float64{0x1p53 + 2, 0x1p53}, 1}, {[]float64{-1, -2, -3}, 2}, {[]float64{-3, -2, -1}, 0}, {[]float64{0.5, 0.25}, 1},
	} {
		if i, e := score.Best(x.l...); i != x.i || e != api.OK {
			t.Errorf("Best(%v): got %d, %d, want %d", x.l, i, e, x.i)
		}
	}
}

// No number, or none but such as are none, of whatever bits, and however many (P6.3).
func TestBestOfNone(t *testing.T) {
	l := nones()
	for n := range l {
		for _, m := range [][]float64{l[:n], l[n:], {l[n]}} {
			i, e := score.Best(m...)
			if i != 0 || e != api.ErrArg {
				t.Errorf("%d that are none: %d, %d", len(m), i, e)
			}
		}
	}
	for _, m := range [][]float64{nil, {}, slices.Repeat([]float64{math.NaN()}, 1000)} {
		if i, e := score.Best(m...); i != 0 || e != api.ErrArg {
			t.Errorf("%d that are none: %d, %d", len(m), i, e)
		}
	}
	if i, e := score.Best(); i != 0 || e != api.ErrArg {
		t.Errorf("no number: %d, %d", i, e)
	}
	for n := range l {
		best(t, append(slices.Clone(l[:n]), 7))
		best(t, append(append(slices.Clone(l[:n]), 7, 8), l[n:]...))
	}
}

// few are numbers of every kind.
func few() []float64 {
	return []float64{math.NaN(), infinite(), -infinite(), 0, minusZero(), 1, -1}
}

// lists are all lists of n of these.
func lists(of []float64, n int) [][]float64 {
	if n == 0 {
		return [][]float64{nil}
	}
	var l [][]float64
	for _, head := range lists(of, n-1) {
		for _, x := range of {
			l = append(l, append(slices.Clone(head), x))
		}
	}
	return l
}

// All short lists of numbers of every kind; a list put behind itself has the same best place (P6.3, P6.7).
func TestBest(t *testing.T) {
	for n := range 6 {
		for _, l := range lists(few(), n) {
			best(t, l)
			i, e := score.Best(l...)
			if j, f := score.Best(append(slices.Clone(l), l...)...); i != j || e != f {
				t.Errorf("%v: %d, %d, and behind itself %d, %d", l, i, e, j, f)
			}
		}
	}
}

// In a long list the least number is found at every place, and the first one of two (P6.3).
func TestBestAtEveryPlace(t *testing.T) {
	d := draws(66)
	for i := range 300 {
		l := make([]float64, 300)
		for j := range l {
			l[j] = float64(1 + d.below(5))
		}
		l[i] = 0.5
		best(t, l)
		l[d.below(300)] = 0.5
		best(t, l)
		l[d.below(300)] = math.NaN()
		best(t, l)
	}
}

// Of choices, the best one costs no more than any other (P6.7).
func TestBestOfCosts(t *testing.T) {
	d := draws(67)
	for range 2000 {
		lambda := d.float(-20, 20)
		l := make([]float64, 1+d.below(12))
		for i := range l {
			l[i] = score.Cost(uint64(d.below(1000)), uint64(d.below(100)), lambda)
		}
		best(t, l)
		i, e := score.Best(l...)
		if e != api.OK || i < 0 || i >= len(l) {
			t.Fatalf("Best(%v): %d, %d", l, i, e)
		}
		for _, x := range l {
			if !(l[i] <= x) {
				t.Errorf("Best(%v): %d costs %v, and there is %v", l, i, l[i], x)
			}
		}
		if j, f := score.Best(append(slices.Clone(l), l...)...); i != j || f != api.OK {
			t.Errorf("%v: %d, and behind itself %d, %d", l, i, j, f)
		}
	}
}
