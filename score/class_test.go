package score_test

import (
	"math"
	"testing"

	"zoetrope/score"
)

// kind is what a number is, told by its bits: a sign, then the rest, which grows as the number does.
func kind(x float64) string {
	bits := math.Float64bits(x)
	below, rest := bits>>63 == 1, bits&(1<<63-1)
	const inf, one = 0x7ff << 52, 0x3ff << 52
	switch {
	case rest > inf:
		return "none"
	case rest == inf && below:
		return "-inf"
	case rest == inf:
		return "inf"
	case rest == 0 && below:
		return "-0"
	case rest == 0:
		return "0"
	case below:
		return "negative"
	case rest < one:
		return "low"
	}
	return "high"
}

// class tries a number.
func class(t *testing.T, x float64, want string) {
	t.Helper()
	if got := score.Class(x); got != want {
		t.Errorf("Class(%v): got %q, want %q", x, got, want)
	}
}

// The chapter's row of numbers (P6.5).
func TestClassExamples(t *testing.T) {
	class(t, 0.5, "low")
	class(t, 1, "high")
	class(t, minusZero(), "-0")
	class(t, -3, "negative")
	class(t, -infinite(), "-inf")
}

// Numbers just below and just above 0 and 1, and at both ends (P6.5).
func TestClassAtTheEdges(t *testing.T) {
	for _, x := range []struct {
		x    float64
		want string
	}{
		{0, "0"}, {least(), "low"}, {-least(), "negative"}, {0x1p-1022, "low"}, {-0x1p-1022, "negative"}, {0x1p-1030, "low"}, {-0x1p-1030, "negative"},
		{math.Nextafter(1, 0), "low"}, {math.Nextafter(1, 2), "high"}, {-1, "negative"}, {math.Nextafter(-1, 0), "negative"}, {math.Nextafter(-1, -2), "negative"}, {-0.5, "negative"}, {0.999, "low"}, {2, "high"},
		{math.MaxFloat64, "high"}, {-math.MaxFloat64, "negative"}, {infinite(), "inf"}, {-infinite(), "-inf"}, {math.MaxFloat32, "high"}, {1e300, "high"}, {-1e300, "negative"}, {1e-300, "low"}, {1 << 62, "high"}, {0x1p63, "high"}, {0x1p64, "high"}, {-0x1p63, "negative"},
	} {
		class(t, x.x, x.want)
	}
	for _, x := range nones() {
		class(t, x, "none")
	}
}

// Each power of 2 and what lies beside it, of both signs, and numbers of any bits (P6.5).
func TestClass(t *testing.T) {
	for e := -1080; e <= 1030; e++ {
		x := math.Ldexp(1, e)
		for _, y := range []float64{x, math.Nextafter(x, 0), math.Nextafter(x, infinite()), x * 1.5} {
			class(t, y, kind(y))
			class(t, -y, kind(-y))
		}
	}
	d := draws(71)
	for range 100000 {
		x := math.Float64frombits(d.word())
		class(t, x, kind(x))
		y := d.float(-3, 3)
		class(t, y, kind(y))
	}
}

// What the other calls answer has its class: planes that are the same are infinitely alike, and so on (P6.1, P6.2, P6.4, P6.5).
func TestClassOfAnswers(t *testing.T) {
	class(t, score.Ratio(row(1, 2), row(1, 2)), "inf")
	class(t, score.Ratio(row(1, 2), row(1, 3)), "high")
	class(t, score.Ratio(row(0), row(255)), "high")
	class(t, score.Ratio(row(1), row(1, 2)), "none")
	class(t, score.Cost(0, 0, infinite()), "none")
	class(t, score.Cost(0, 1, -infinite()), "-inf")
	class(t, score.Cost(0, 0, minusZero()), "0")
	class(t, score.Cost(0, 1, 0.5), "low")
	class(t, score.Cost(1, 2, -1), "negative")
	class(t, score.Mean(), "none")
	class(t, score.Mean(minusZero()), "-0")
	class(t, score.Mean(minusZero(), 0), "0")
	class(t, score.Mean(math.MaxFloat64, math.MaxFloat64), "inf")
}
