package basis_test

import (
	"slices"
	"testing"

	"zoetrope/api"
	"zoetrope/basis"
)

// The chapter's rows of examples that answer (P7.2).
func TestRowExamples(t *testing.T) {
	for i, x := range []struct {
		call     func(int, []int) ([]int, api.Errno)
		kind     int
		in, want []int
	}{
		{basis.Inverse, api.Dct, []int{4096, 0, 0, 0}, []int{2896, 2896, 2896, 2896}},
		{basis.Forward, api.Dct, []int{100, 100, 100, 100}, []int{283, 0, 0, 0}},
		{basis.Inverse, api.Dct, []int{0, 4096, 0, 0}, []int{3784, 1567, -1567, -3784}},
		{basis.Inverse, api.Adst, []int{4096, 0, 0, 0}, []int{799, 2276, 3406, 4017}},
		{basis.Inverse, api.Ident, []int{4096, 1, -1, 0}, []int{5793, 1, -1, 0}},
		{basis.Forward, api.Ident, alike(8, 5), alike(8, 10)},
		{basis.Forward, api.Wht, []int{1, 2, 3, 4}, []int{5, -2, 0, -1}},
		{basis.Inverse, api.Wht, []int{5, 1, -1, 0}, []int{3, 3, 2, 1}},
	} {
		if out, e := x.call(x.kind, x.in); !slices.Equal(out, x.want) || e != api.OK {
			t.Errorf("%d: got %v, %d, want %v", i, out, e, x.want)
		}
	}
}

// Rows by hand, each either way, whose sums fall between two numbers: to the nearest one, up from the middle, below 0, too (P7.2).
func TestRoundingByHand(t *testing.T) {
	for i, x := range []struct {
		call     func(int, []int) ([]int, api.Errno)
		kind     int
		in, want []int
	}{
		{basis.Inverse, api.Dct, []int{128, 0, 0, 0}, alike(4, 91)}, // 90.5
		{basis.Inverse, api.Dct, []int{-128, 0, 0, 0}, alike(4, -90)},
		{basis.Inverse, api.Dct, []int{127, 0, 0, 0}, alike(4, 90)}, // 89.79
		{basis.Inverse, api.Dct, []int{-127, 0, 0, 0}, alike(4, -90)},
		{basis.Inverse, api.Dct, []int{2, 0, 0, 0}, alike(4, 1)}, // 1.41
		{basis.Inverse, api.Dct, []int{-2, 0, 0, 0}, alike(4, -1)},
		{basis.Forward, api.Dct, []int{32, 32, 32, 32}, []int{91, 0, 0, 0}},
		{basis.Forward, api.Dct, []int{-32, -32, -32, -32}, []int{-90, 0, 0, 0}},
		{basis.Forward, api.Dct, alike(64, 2), append([]int{91}, make([]int, 63)...)},
		{basis.Forward, api.Dct, alike(64, -2), append([]int{-90}, make([]int, 63)...)},
		{basis.Inverse, api.Adst, []int{2048, 0, 0, 0}, []int{400, 1138, 1703, 2009}}, // 399.5 1138 1703 2008.5
		{basis.Inverse, api.Adst, []int{-2048, 0, 0, 0}, []int{-399, -1138, -1703, -2008}},
		{basis.Forward, api.Adst, []int{2048, 0, 0, 0}, []int{400, 1138, 1703, 2009}},
		{basis.Forward, api.Adst, []int{-2048, 0, 0, 0}, []int{-399, -1138, -1703, -2008}},
		{basis.Inverse, api.Ident, []int{2048, -2048, 2047, -2047}, []int{2897, -2896, 2895, -2895}}, // 2896.5 either way, 2895.09
		{basis.Forward, api.Ident, []int{2049, -2049, 1, -1}, []int{2898, -2898, 1, -1}},             // 2897.91, 1.41
		{basis.Inverse, api.Wht, []int{1, 0, 0, 0}, []int{1, 0, 0, 0}},
		{basis.Inverse, api.Wht, []int{-1, 0, 0, 0}, []int{0, -1, -1, -1}},
		{basis.Inverse, api.Wht, []int{0, 0, 1, 0}, []int{1, -1, -1, 0}},
		{basis.Forward, api.Wht, []int{1, 0, 0, 0}, []int{1, 0, 0, 0}},
		{basis.Forward, api.Wht, []int{-1, 0, 0, 0}, []int{0, -1, -1, -1}},
		{basis.Forward, api.Wht, []int{0, 0, 0, 1}, []int{1, -1, 0, -1}},
	} {
		if out, e := x.call(x.kind, x.in); !slices.Equal(out, x.want) || e != api.OK {
			t.Errorf("%d, %v: got %v, %d, want %v", i, x.in, out, e, x.want)
		}
	}
}

// 4096 at one place alone tells that place's weights as they are; other numbers tell how sums round, in the middle and just beside it; and of every kind and length (P7.2).
func TestEachWeight(t *testing.T) {
	for _, s := range shapes() {
		for _, w := range ways() {
			for at := range s.n {
				for _, v := range []int{4096, 1, 2, 3, 128, 1023, 1024, 2047, 2048, 2049, 6143, 6144, 32767, 32768, 1<<20 - 2048, 1<<20 - 1, 1 << 20} {
					check(t, w, s.kind, single(s.n, at, v))
					check(t, w, s.kind, single(s.n, at, -v))
				}
			}
		}
	}
}

// Rows of many numbers, some of them full of noughts, of small numbers, or at both ends (P7.2).
func TestMixedRows(t *testing.T) {
	d := draws(2)
	for _, s := range shapes() {
		for _, w := range ways() {
			check(t, w, s.kind, make([]int, s.n))
			for range 12 {
				for _, end := range []int{1, 2, 3, 255, 1023, 32768, 1 << 18, 1 << 20} {
					check(t, w, s.kind, d.row(s.n, end))
				}
				check(t, w, s.kind, d.ends(s.n, 0, 0, 0, 2048, -2048, 1, -1))
				check(t, w, s.kind, d.ends(s.n, 2048, -2048))
				check(t, w, s.kind, d.ends(s.n, 1<<20, -1<<20))
				check(t, w, s.kind, d.ends(s.n, 1<<20, 1<<20-1, 0, -1<<20, 1-1<<20))
			}
		}
	}
}

// The greatest sums that there are: at each place of the answer every weight counts with its own sign (P7.2).
func TestGreatestSums(t *testing.T) {
	for _, s := range weighted() {
		for at := range s.n {
			ones := signs(s.n, func(k int) int { return weight(s, k, at) })
			check(t, ways()[0], s.kind, times(ones, 1<<20))
			check(t, ways()[0], s.kind, times(ones, -1<<20))
			ones = signs(s.n, func(i int) int { return weight(s, at, i) })
			check(t, ways()[1], s.kind, times(ones, 1<<20))
			check(t, ways()[1], s.kind, times(ones, -1<<20))
		}
	}
	fours(func(in []int) {
		for _, w := range ways() {
			check(t, w, api.Wht, times(in, 1<<20))
		}
	})
}

// Of all rows of four small numbers (P7.2).
func TestWhtOfSmallRows(t *testing.T) {
	for x := range 9 * 9 * 9 * 9 {
		in := []int{x%9 - 4, x/9%9 - 4, x/81%9 - 4, x/729 - 4}
		for _, w := range ways() {
			check(t, w, api.Wht, in)
		}
	}
}

// signs is a row of 1, where a weight is from 0 on, and -1.
func signs(n int, weigh func(j int) int) []int {
	l := make([]int, n)
	for j := range l {
		l[j] = 1
		if weigh(j) < 0 {
			l[j] = -1
		}
	}
	return l
}

// times is a row, each number of which is so much greater.
func times(in []int, by int) []int {
	l := slices.Clone(in)
	for i := range l {
		l[i] *= by
	}
	return l
}

// fours goes through all rows of four numbers -1, 0 and 1.
func fours(see func(in []int)) {
	for x := range 81 {
		see([]int{x%3 - 1, x/3%3 - 1, x/9%3 - 1, x/27 - 1})
	}
}
