package score_test

import (
	"math"
	"math/big"
	"slices"
	"testing"

	"zoetrope/score"
)

// counts are distances and rates in order: both ends, and what lies between two numbers that a float64 has, ties among them.
func counts() []uint64 {
	return []uint64{
		0, 1, 2, 3, 10, 255, 65025, 1<<24 - 1, 1<<24 + 1, 1<<32 - 1, 1 << 32, 1<<53 - 1, 1 << 53, 1<<53 + 1, 1<<53 + 2, 1<<53 + 3, 1<<54 + 2, 1<<54 + 6,
		1<<63 - 513, 1<<63 - 512, 1<<63 - 1, 1 << 63, 1<<63 + 1, 1<<63 + 1024, 1<<63 + 1025, 1<<63 + 3072, 1<<64 - 3072, 1<<64 - 2048, 1<<64 - 1025, 1<<64 - 1024, 1<<64 - 1023, 1<<64 - 2, 1<<64 - 1,
	}
}

// finite are lambdas from 0 on, in order.
func finite() []float64 {
	return []float64{
		0, least(), 3 * least(), 0x1p-1022, 0x1p-1000, 1e-300, 1e-19, 0x1p-53, 0.1, 1.0 / 3, 0.5, math.Nextafter(1, 0), 1, math.Nextafter(1, 2), 1.5, 2, 10.7, 1e9, 0x1p53, 1e19, 1e300, 0x1p960, 0x1p1000, math.MaxFloat64 / 2, math.MaxFloat64,
	}
}

// price is a cost, worked out in fractions: the product is rounded, then the sum.
func price(d, rate uint64, lambda float64) float64 {
	product := rounded(new(big.Rat).Mul(fraction(lambda), fraction(rounded(whole(rate)))))
	if math.IsInf(product, 0) {
		return product
	}
	return rounded(new(big.Rat).Add(fraction(product), fraction(rounded(whole(d)))))
}

// The chapter's row of costs (P6.2).
func TestCostExamples(t *testing.T) {
	is(t, score.Cost(10, 3, 0.5), 11.5, "10, 3, 0.5")
	is(t, score.Cost(10, 0, infinite()), math.NaN(), "10, 0, infinite")
	is(t, score.Cost(10, 3, -2), 4, "10, 3, -2")
	is(t, score.Cost(1<<64-1, 0, 1), 0x1p64, "2^64 - 1, 0, 1")
}

// Costs by hand: of both ends, of sums that round, and of what leaves the range (P6.2).
func TestCostByHand(t *testing.T) {
	for i, x := range []struct {
		d, rate uint64
		lambda  float64
		want    float64
	}{
		{0, 0, 0, 0}, {0, 0, minusZero(), 0}, {0, 7, minusZero(), 0}, {0, 1<<64 - 1, minusZero(), 0}, {0, 0, -3, 0}, {5, 0, -3, 5}, {6, 3, -2, 0}, {0, 3, -2, -6}, {7, 1<<64 - 1, 0, 7},
		{0, 1<<64 - 1, 1, 0x1p64}, {1<<64 - 1, 1<<64 - 1, 1, 0x1p65}, {1<<64 - 1, 1<<64 - 1, -1, 0}, {1<<64 - 1, 1<<64 - 1, 0, 0x1p64}, {1<<64 - 1025, 0, 0, 0x1p64 - 2048}, {1 << 63, 0, 1, 0x1p63}, {0, 1 << 63, 0.5, 0x1p62},
		{1<<53 + 1, 0, 0, 0x1p53}, {1<<53 + 3, 0, 0, 0x1p53 + 4}, {0, 1<<53 + 1, 1, 0x1p53}, {1 << 53, 1, 1, 0x1p53}, {1<<53 + 1, 1, 1, 0x1p53}, {1 << 53, 3, 1, 0x1p53 + 4},
		{1, 1, least(), 1}, {0, 1, least(), least()}, {0, 1, -least(), -least()}, {0, 2, 0.1, 0.2}, {1, 1, -1, 0},
		{0, 1, math.MaxFloat64, math.MaxFloat64}, {1<<64 - 1, 1, math.MaxFloat64, math.MaxFloat64}, {0, 2, math.MaxFloat64, infinite()}, {1<<64 - 1, 2, -math.MaxFloat64, -infinite()}, {0, 1<<64 - 1, 0x1p960, infinite()}, {0, 1<<64 - 2048, 0x1p960, math.Ldexp(0x1p64-2048, 960)},
	} {
		is(t, score.Cost(x.d, x.rate, x.lambda), x.want, "%d: Cost(%d, %d, %v)", i, x.d, x.rate, x.lambda)
	}
}

// All distances, rates and lambdas with each other, of both signs (P6.2).
func TestCost(t *testing.T) {
	for _, d := range counts() {
		for _, rate := range counts() {
			for _, lambda := range finite() {
				is(t, score.Cost(d, rate, lambda), price(d, rate, lambda), "Cost(%d, %d, %v)", d, rate, lambda)
				is(t, score.Cost(d, rate, -lambda), price(d, rate, -lambda), "Cost(%d, %d, -%v)", d, rate, lambda)
			}
			is(t, score.Cost(d, rate, minusZero()), price(d, rate, 0), "Cost(%d, %d, -0)", d, rate)
		}
	}
	r := draws(63)
	for range 20000 {
		d, rate, lambda := r.count(), r.count(), r.float(-80, 80)
		is(t, score.Cost(d, rate, lambda), price(d, rate, lambda), "Cost(%d, %d, %v)", d, rate, lambda)
	}
}

// Of an infinite lambda a cost is infinite, by lambda's sign, but none of rate 0; of a lambda that is none it is none (P6.2).
func TestCostOfNoFiniteLambda(t *testing.T) {
	for _, d := range counts() {
		for _, rate := range counts() {
			for _, lambda := range []float64{infinite(), -infinite()} {
				want := lambda
				if rate == 0 {
					want = math.NaN()
				}
				is(t, score.Cost(d, rate, lambda), want, "Cost(%d, %d, %v)", d, rate, lambda)
			}
			for _, lambda := range nones() {
				is(t, score.Cost(d, rate, lambda), math.NaN(), "Cost(%d, %d, none)", d, rate)
			}
		}
	}
}

// The product is rounded ahead of the sum: what comes out is not what a product that is kept whole gives (P6.2).
func TestCostRoundsTwice(t *testing.T) {
	for _, x := range []struct {
		d, rate uint64
		lambda  float64
		want    float64
	}{{1, 10, -0.1, 0}, {7, 3, -7.0 / 3, 0}, {1 << 53, 10, 0.3, 0x1p53 + 4}, {1<<64 - 1, 1<<64 - 1, -math.Nextafter(1, 2), -0x1p12}} {
		is(t, score.Cost(x.d, x.rate, x.lambda), x.want, "Cost(%d, %d, %v)", x.d, x.rate, x.lambda)
	}
	r := draws(64)
	differ := 0
	for range 5000 {
		d, rate := r.count(), 1+r.count()
		lambda := -float64(d) / float64(rate)
		got := score.Cost(d, rate, lambda)
		is(t, got, price(d, rate, lambda), "Cost(%d, %d, %v)", d, rate, lambda)
		if got != math.FMA(lambda, float64(rate), float64(d)) {
			differ++
		}
	}
	if differ < 100 {
		t.Errorf("only %d of the draws tell one rounding from two", differ)
	}
}

// A greater distance, and a greater rate, costs no less (P6.7).
func TestCostGrows(t *testing.T) {
	r := draws(65)
	l := counts()
	for range 100 {
		l = append(l, r.count())
	}
	slices.Sort(l)
	for _, lambda := range append(finite(), minusZero(), math.Abs(r.float(-60, 60)), math.Abs(r.float(-60, 60))) {
		for _, n := range l {
			for i := range l[1:] {
				if a, b := score.Cost(l[i], n, lambda), score.Cost(l[i+1], n, lambda); !(a <= b) {
					t.Errorf("rate %d, lambda %v: %d costs %v, %d costs %v", n, lambda, l[i], a, l[i+1], b)
				}
				if a, b := score.Cost(n, l[i], lambda), score.Cost(n, l[i+1], lambda); !(a <= b) {
					t.Errorf("distance %d, lambda %v: rate %d costs %v, %d costs %v", n, lambda, l[i], a, l[i+1], b)
				}
			}
		}
	}
}
