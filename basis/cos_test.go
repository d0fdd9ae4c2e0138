package basis_test

import (
	"math"
	"math/big"
	"testing"

	"zoetrope/basis"
)

// cosines is the chapter's row of cosines.
func cosines() []int {
	return []int{
		4096, 4095, 4091, 4085, 4076, 4065, 4052, 4036, 4017, 3996, 3973, 3948, 3920, 3889, 3857, 3822, 3784, 3745, 3703, 3659, 3612, 3564,
		3513, 3461, 3406, 3349, 3290, 3229, 3166, 3102, 3035, 2967, 2896, 2824, 2751, 2675, 2598, 2520, 2440, 2359, 2276, 2191, 2106, 2019,
		1931, 1842, 1751, 1660, 1567, 1474, 1380, 1285, 1189, 1092, 995, 897, 799, 700, 601, 501, 401, 301, 201, 101, 0,
	}
}

// cosine is what Cos is to answer: the part of the circle is found in numbers of any length.
func cosine(j int) int {
	part := new(big.Int).Mod(big.NewInt(int64(j)), big.NewInt(256)).Int64() // never below 0
	return int(math.Round(4096 * math.Cos(2*math.Pi*float64(part)/256)))
}

func isCos(t *testing.T, j, want int) {
	t.Helper()
	if v := basis.Cos(j); v != want {
		t.Errorf("Cos(%d): got %d, want %d", j, v, want)
	}
}

// The chapter's row of examples (P7.1).
func TestCosExamples(t *testing.T) {
	for _, x := range [][2]int{{0, 4096}, {32, 2896}, {64, 0}, {96, -2896}, {128, -4096}, {192, 0}, {-32, 2896}, {1000, 3406}} {
		isCos(t, x[0], x[1])
	}
}

// Each number of the chapter's row, in every quarter of the circle, and turns away either way (P7.1).
func TestCosOfTheRow(t *testing.T) {
	if n := len(cosines()); n != 65 {
		t.Fatalf("the row has %d numbers", n)
	}
	for j, want := range cosines() {
		for _, turn := range []int{0, 256, 512, 2560, 256 << 20, 1 << 40, 1 << 62, -256, -512, -1 << 40, -1 << 62, math.MinInt} {
			isCos(t, turn+j, want)
			isCos(t, turn+128-j, -want)
			isCos(t, turn+128+j, -want)
			isCos(t, turn+256-j, want)
		}
		isCos(t, -j, want)
		isCos(t, -128-j, -want)
		isCos(t, -128+j, -want)
		isCos(t, -256+j, want)
	}
}

// It is 4096 times the cosine, rounded to the nearest, of any number of parts (P7.1).
func TestCos(t *testing.T) {
	for j := -2000; j <= 2000; j++ {
		isCos(t, j, cosine(j))
	}
	for away := range 600 {
		isCos(t, math.MaxInt-away, cosine(math.MaxInt-away))
		isCos(t, math.MinInt+away, cosine(math.MinInt+away))
		for _, near := range []int{1 << 15, 1 << 16, 1 << 31, 1 << 32, 1 << 62, -1 << 15, -1 << 16, -1 << 31, -1 << 32, -1 << 62} {
			isCos(t, near+away-300, cosine(near+away-300))
		}
	}
	d := draws(1)
	for range 5000 {
		j := d.below(1<<31)<<33 ^ d.below(1<<31)<<12 ^ d.below(1<<31)
		isCos(t, j, cosine(j))
	}
}

// At both ends of an int it is what it is of the part of a circle there, by hand (P7.1).
func TestCosAtTheEnds(t *testing.T) {
	isCos(t, math.MinInt, 4096)
	isCos(t, math.MinInt+1, 4095)
	isCos(t, math.MinInt+64, 0)
	isCos(t, math.MinInt+128, -4096)
	isCos(t, math.MaxInt, 4095)
	isCos(t, math.MaxInt-1, 4091)
	isCos(t, math.MaxInt-31, 2896)
	isCos(t, math.MaxInt-63, 0)
	isCos(t, math.MaxInt-127, -4096)
}
