package score_test

import (
	"math"
	"math/big"
	"slices"
	"testing"

	"zoetrope/score"
)

// middle is the mean of numbers whose sums stay finite, worked out in fractions, each sum rounded, and then the quotient.
func middle(l []float64) float64 {
	s := fraction(l[0])
	for _, x := range l[1:] {
		s = fraction(rounded(new(big.Rat).Add(s, fraction(x))))
	}
	return rounded(s.Quo(s, whole(uint64(len(l)))))
}

// The chapter's row of means (P6.4).
func TestMeanExamples(t *testing.T) {
	is(t, score.Mean(1, 2, 4), rounded(big.NewRat(7, 3)), "1, 2, 4")
	is(t, score.Mean(), math.NaN(), "no number")
	is(t, score.Mean(infinite(), -infinite()), math.NaN(), "infinite, -infinite")
	is(t, score.Mean(minusZero()), minusZero(), "-0")
}

// Means by hand: signs of 0, sums that round, sums that leave the range, and quotients that do not come out even (P6.4).
func TestMeanByHand(t *testing.T) {
	most, inf := math.MaxFloat64, infinite()
	for _, x := range []struct {
		l    []float64
		want float64
	}{
		{[]float64{1, 2, 6}, 3}, {[]float64{5}, 5}, {[]float64{-5}, -5}, {[]float64{0}, 0}, {[]float64{1, 2}, 1.5}, {[]float64{-1, 1}, 0}, {[]float64{1, -1}, 0}, {[]float64{1, 0, 0}, 1.0 / 3}, {[]float64{-7, 1, 1}, -5.0 / 3},
		{[]float64{minusZero(), minusZero()}, minusZero()}, {[]float64{minusZero(), 0}, 0}, {[]float64{0, minusZero()}, 0}, {[]float64{minusZero(), minusZero(), minusZero()}, minusZero()}, {[]float64{minusZero(), 3}, 1.5},
		{[]float64{1e16, 1, 1, -1e16}, 0}, {[]float64{1, 1, 1e16, -1e16}, 0.5}, {[]float64{1e16, -1e16, 1, 1}, 0.5}, {[]float64{1, 1e16, -1e16, 1}, 0.25}, {[]float64{0x1p53, 1, 1}, 0x1p53 / 3.0}, {[]float64{1, 1, 0x1p53}, (0x1p53 + 2) / 3.0}, {[]float64{0.1, 0.2, 0.3}, middle([]float64{0.1, 0.2, 0.3})},
		{[]float64{most}, most}, {[]float64{most, most}, inf}, {[]float64{-most, -most}, -inf}, {[]float64{most, most, -most}, inf}, {[]float64{most, -most, most}, most / 3}, {[]float64{most, most, -inf}, math.NaN()}, {[]float64{most, most, inf}, inf}, {[]float64{most, 1}, most / 2}, {[]float64{most, 0x1p970}, inf}, {[]float64{most, 0x1p969}, most / 2},
		{[]float64{least()}, least()}, {[]float64{least(), 0}, 0}, {[]float64{-least(), 0}, minusZero()}, {[]float64{least(), least(), least(), 0}, least()}, {[]float64{3 * least(), 0}, 2 * least()}, {[]float64{least(), -least()}, 0},
		{[]float64{inf}, inf}, {[]float64{-inf}, -inf}, {[]float64{inf, inf}, inf}, {[]float64{-inf, -inf}, -inf}, {[]float64{inf, 1}, inf}, {[]float64{1, inf}, inf}, {[]float64{1, -inf, 1}, -inf}, {[]float64{-inf, inf}, math.NaN()}, {[]float64{inf, 1, -inf}, math.NaN()}, {[]float64{inf, -most}, inf},
	} {
		is(t, score.Mean(x.l...), x.want, "Mean(%v)", x.l)
	}
}

// None of no number, and of any number that is none, wherever it stands (P6.4).
func TestMeanOfNone(t *testing.T) {
	is(t, score.Mean(), math.NaN(), "no number")
	is(t, score.Mean([]float64{}...), math.NaN(), "a list without elements")
	is(t, score.Mean([]float64(nil)...), math.NaN(), "no list")
	for _, none := range nones() {
		for n := 1; n < 8; n++ {
			for i := range n {
				l := slices.Repeat([]float64{float64(n - 3)}, n)
				l[i] = none
				is(t, score.Mean(l...), math.NaN(), "Mean(%v)", l)
				l[n-1-i] = infinite()
				l[i] = none
				is(t, score.Mean(l...), math.NaN(), "Mean(%v)", l)
			}
		}
	}
}

// Numbers of all sizes: each sum is rounded, from the left, and then the quotient (P6.4).
func TestMean(t *testing.T) {
	d := draws(68)
	otherwise := 0
	for i := range 4000 {
		high := []int{0, 3, 60, 900}[i%4]
		l := make([]float64, 1+d.below(40))
		for j := range l {
			l[j] = d.float(-high, high)
		}
		got := score.Mean(l...)
		is(t, got, middle(l), "Mean(%v)", l)
		slices.Reverse(l)
		if got != middle(l) {
			otherwise++
		}
	}
	if otherwise < 500 {
		t.Errorf("only %d of the draws tell from which side they are added", otherwise)
	}
}

// The sum is divided, not each number, nor multiplied by what is over 1 (P6.4).
func TestMeanDividesOnce(t *testing.T) {
	for n := 1; n <= 1000; n++ {
		l := make([]float64, n)
		l[n-1] = 1
		is(t, score.Mean(l...), rounded(big.NewRat(1, int64(n))), "one 1 of %d", n)
		l[0] = float64(3*n + 1)
		want := rounded(big.NewRat(3*int64(n)+2, int64(n)))
		if n == 1 {
			want = 4
		}
		is(t, score.Mean(l...), want, "%d and 1 of %d", 3*n+1, n)
		is(t, score.Mean(slices.Repeat([]float64{1}, n)...), 1, "%d times 1", n)
	}
}

// More numbers than a float of 32 bits counts are as many as they are (P6.4).
func TestMeanOfMany(t *testing.T) {
	l := slices.Repeat([]float64{1}, 1<<24+1)
	is(t, score.Mean(l...), 1, "2^24 + 1 times 1")
	l[0] = 0
	is(t, score.Mean(l...), rounded(big.NewRat(1<<24, 1<<24+1)), "once 0 and 2^24 times 1")
}

// wholes is a list of whole numbers up to a greatest one either way.
func wholes(d *draws, n int, most int64) []float64 {
	l := make([]float64, n)
	for i := range l {
		l[i] = float64(int64(d.word()%uint64(2*most+1)) - most)
	}
	return l
}

// Of whole numbers up to 2^40 either way, 1000 at most, the mean lies between the least and the greatest, and is the nearest number to what it is (P6.8).
func TestMeanOfWholeNumbers(t *testing.T) {
	d := draws(69)
	for i := range 3000 {
		n, most := 1+d.below(40), int64(1)<<d.below(41)
		if i%50 == 0 {
			n = 1000 - d.below(3)
		}
		l := wholes(&d, n, most)
		if i%3 == 0 {
			l[d.below(n)], l[d.below(n)] = 1<<40, -1<<40
		}
		x := score.Mean(l...)
		if !(slices.Min(l) <= x && x <= slices.Max(l)) {
			t.Errorf("Mean(%v): %v", l, x)
		}
		s := int64(0)
		for _, y := range l {
			s += int64(y)
		}
		is(t, x, rounded(big.NewRat(s, int64(n))), "Mean(%v)", l)
	}
}

// Of numbers that are all the same it is that one (P6.8).
func TestMeanOfOneNumber(t *testing.T) {
	d := draws(70)
	l := []float64{0, minusZero(), 1, -1, 2, 3, 7, -49, 1<<31 - 1, 1<<40 - 1, -1<<40 + 1, 1 << 40, -1 << 40}
	for _, x := range append(l, wholes(&d, 20, 1<<40)...) {
		for _, n := range []int{1, 2, 3, 5, 7, 49, 100, 256, 333, 997, 999, 1000} {
			is(t, score.Mean(slices.Repeat([]float64{x}, n)...), x, "%d times %v", n, x)
		}
	}
	for _, x := range []float64{1 << 40, -1 << 40} {
		m := slices.Repeat([]float64{x}, 1000)
		m[999] = -x
		is(t, score.Mean(m...), x*998/1000, "999 times %v and once %v", x, -x)
	}
}
