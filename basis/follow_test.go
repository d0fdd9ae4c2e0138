package basis_test

import (
	"math"
	"slices"
	"testing"

	"zoetrope/api"
)

// near tells whether a number lies at most so far from another.
func near(a, b, far int) bool { return a-b <= far && b-a <= far }

// lossless asks for a row, taken there and back, either way first.
func lossless(t *testing.T, in []int) {
	t.Helper()
	inverse, forward := ways()[0], ways()[1]
	if out := must(t, inverse, api.Wht, must(t, forward, api.Wht, in)); !slices.Equal(out, in) {
		t.Fatalf("Inverse of Forward of %v: %v", in, out)
	}
	if out := must(t, forward, api.Wht, must(t, inverse, api.Wht, in)); !slices.Equal(out, in) {
		t.Fatalf("Forward of Inverse of %v: %v", in, out)
	}
}

// Wht loses nothing, either way, at both ends and between (P7.3).
func TestWhtLosesNothing(t *testing.T) {
	few := []int{-1 << 18, 1 - 1<<18, -3, -2, -1, 0, 1, 2, 3, 1<<18 - 1, 1 << 18}
	n := len(few)
	for x := range n * n * n * n {
		lossless(t, []int{few[x%n], few[x/n%n], few[x/n/n%n], few[x/n/n/n]})
	}
	d := draws(4)
	for range 5000 {
		lossless(t, d.row(4, 1<<18))
		lossless(t, d.row(4, 255))
	}
}

// back asks whether each number of Inverse of Forward is n / 2 times what it was, but for n n / 2 at most.
func back(t *testing.T, s shape, in []int) {
	t.Helper()
	out := must(t, ways()[0], s.kind, must(t, ways()[1], s.kind, in))
	for i, v := range out {
		if !near(v, in[i]*s.n/2, s.n*s.n/2) {
			t.Fatalf("%v, %v at %d: %d", s, in, i, v)
		}
	}
}

// mixing is how much of what sample i was sample j has become there and back, but for what it should be, were nothing rounded.
func mixing(s shape, weights [][]int, i, j int) float64 {
	sum := 0.0
	for k := range s.n {
		sum += float64(weights[k][i]) * float64(weights[k][j])
	}
	if i == j {
		sum -= float64(s.n) / 2 * 4096 * 4096
	}
	return sum / 4096 / 4096
}

// told is the weights of a shape, as Inverse tells them.
func told(t *testing.T, s shape) [][]int {
	var l [][]int
	for k := range s.n {
		l = append(l, must(t, ways()[0], s.kind, single(s.n, k, 4096)))
	}
	return l
}

// All others come back n / 2 times as great: rows at both ends, the worst ones for each place among them (P7.4).
func TestComesBack(t *testing.T) {
	d := draws(5)
	for _, s := range weighted() {
		weights := told(t, s)
		for j := range s.n {
			worst := signs(s.n, func(i int) int {
				if mixing(s, weights, i, j) < 0 {
					return -1
				}
				return 1
			})
			back(t, s, times(worst, 1023))
			back(t, s, times(worst, -1023))
			back(t, s, single(s.n, j, 1023))
			back(t, s, single(s.n, j, -1023))
		}
		back(t, s, make([]int, s.n))
		back(t, s, alike(s.n, 1023))
		back(t, s, alike(s.n, -1023))
		for range 200 {
			back(t, s, d.ends(s.n, 1023, -1023))
			back(t, s, d.ends(s.n, 1023, 0, -1023))
			back(t, s, d.row(s.n, 1023))
		}
	}
	fours(func(in []int) {
		for _, kind := range []int{api.Dct, api.Adst, api.Ident} {
			back(t, shape{kind, 4}, times(in, 1023))
		}
	})
}

// No row of numbers up to 1023 can come back farther away: what the weights mix in, and what both roundings add, is less than n n / 2 together (P7.4).
func TestComesBackWhateverTheRow(t *testing.T) {
	for _, s := range weighted() {
		weights := told(t, s)
		for j := range s.n {
			far := 0.5
			for k := range s.n {
				far += 1023*math.Abs(mixing(s, weights, k, j)) + 0.5*math.Abs(float64(weights[k][j]))/4096
			}
			if bound := float64(s.n*s.n) / 2; far > bound {
				t.Fatalf("%v at %d: %v, more than %v", s, j, far, bound)
			}
		}
	}
}

// adds asks whether what is made of the sum of two rows is the sum of what is made of them, but for 1.
func adds(t *testing.T, w way, kind int, a, b []int) {
	t.Helper()
	sum := slices.Clone(a)
	for i := range sum {
		sum[i] += b[i]
	}
	x, y, z := must(t, w, kind, a), must(t, w, kind, b), must(t, w, kind, sum)
	for i := range z {
		if !near(z[i], x[i]+y[i], 1) {
			t.Fatalf("%s(%d) of %v and %v at %d: %d, %d, of the sum %d", w.name, kind, a, b, i, x[i], y[i], z[i])
		}
	}
}

// Sums of rows, at both ends and between, and of numbers that make sums of half a number (P7.5).
func TestSums(t *testing.T) {
	const end = 1 << 19
	d := draws(6)
	for _, s := range weighted() {
		for _, w := range ways() {
			for _, x := range [][2]int{{end, end}, {-end, -end}, {end, -end}, {end, end - 1}, {1 - end, -end}, {0, end}, {2048, 2048}, {-2048, -2048}, {2048, -2048}, {1, 1}, {-1, -1}} {
				adds(t, w, s.kind, alike(s.n, x[0]), alike(s.n, x[1]))
				for at := range s.n {
					adds(t, w, s.kind, single(s.n, at, x[0]), single(s.n, at, x[1]))
				}
			}
			for at := range s.n {
				ones := signs(s.n, func(j int) int { return weight(s, at, j) })
				adds(t, w, s.kind, times(ones, end), times(ones, end))
				adds(t, w, s.kind, times(ones, -end), times(ones, -end))
			}
			for range 100 {
				adds(t, w, s.kind, d.row(s.n, end), d.row(s.n, end))
				adds(t, w, s.kind, d.row(s.n, 3), d.row(s.n, 3))
				adds(t, w, s.kind, d.ends(s.n, end, -end), d.ends(s.n, end, -end))
				adds(t, w, s.kind, d.ends(s.n, 2048, -2048), d.ends(s.n, 2048, -2048))
			}
		}
	}
}

// bounded asks for what the document says, and whether it lies between -2^23 and 2^23.
func bounded(t *testing.T, w way, kind int, in []int) {
	t.Helper()
	check(t, w, kind, in)
	for i, v := range must(t, w, kind, in) {
		if v < -1<<23 || v > 1<<23 {
			t.Fatalf("%s(%d, %v) at %d: %d", w.name, kind, in, i, v)
		}
	}
}

// toEnds is a row of both ends of 16 bits, by the signs of another.
func toEnds(ones []int) []int {
	l := slices.Clone(ones)
	for i, v := range l {
		l[i] = min(v*32768, 32767)
	}
	return l
}

// Of numbers of 16 bits nothing that is answered leaves the bound, not even where every weight counts with its own sign (P7.6).
func TestBounded(t *testing.T) {
	d := draws(7)
	for _, s := range shapes() {
		for _, w := range ways() {
			bounded(t, w, s.kind, alike(s.n, 32767))
			bounded(t, w, s.kind, alike(s.n, -32768))
			for at := range s.n {
				for _, ones := range [][]int{
					signs(s.n, func(j int) int { return weight(s, j, at) }),
					signs(s.n, func(j int) int { return weight(s, at, j) }),
				} {
					bounded(t, w, s.kind, toEnds(ones))
					bounded(t, w, s.kind, toEnds(times(ones, -1)))
				}
			}
			for range 20 {
				bounded(t, w, s.kind, d.ends(s.n, 32767, -32768))
			}
		}
	}
	fours(func(in []int) {
		bounded(t, ways()[0], api.Wht, toEnds(in))
		bounded(t, ways()[1], api.Wht, toEnds(in))
	})
}
