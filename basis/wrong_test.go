package basis_test

import (
	"math"
	"slices"
	"testing"

	"zoetrope/api"
	"zoetrope/basis"
)

// The chapter's row of examples that are refused (P7.2).
func TestWrongExamples(t *testing.T) {
	w := ways()[0]
	refused(t, w, 4, make([]int, 4))
	refused(t, w, api.Adst, make([]int, 32))
	refused(t, w, api.Dct, make([]int, 3))
	refused(t, w, api.Wht, []int{1<<20 + 1, 0, 0, 0})
}

// ErrArg, unless there is such a kind, whatever the row (P7.2).
func TestNoSuchKind(t *testing.T) {
	for _, w := range ways() {
		for _, kind := range noKinds() {
			for n := range 70 {
				refused(t, w, kind, make([]int, n))
			}
			refused(t, w, kind, nil)
			refused(t, w, kind, []int{1, -2, 3, -4})
			refused(t, w, kind, make([]int, 1<<16))
		}
	}
}

// A kind has rows of just those lengths that the chapter names, and no others (P7.2).
func TestLengths(t *testing.T) {
	d := draws(3)
	for _, w := range ways() {
		for kind := range 4 {
			for n := range 300 {
				in := d.row(n, 1000)
				if slices.Contains(shapes(), shape{kind, n}) {
					check(t, w, kind, in)
				} else {
					refused(t, w, kind, in)
				}
			}
			refused(t, w, kind, nil)
			for _, n := range []int{512, 1024, 4096, 65535, 65536, 65540, 1 << 20} {
				refused(t, w, kind, make([]int, n))
			}
		}
	}
}

// beyond are numbers that no row may have, some of whose lower bits look as if one might.
func beyond() []int {
	return []int{
		1<<20 + 1, -1<<20 - 1, 1<<20 + 2, -1<<20 - 2, 1 << 21, -1 << 21, 1<<31 - 1, -1 << 31, 1 << 31, 1 << 32, 1<<32 + 5, -1 << 32, 5 - 1<<32, 1 << 40, 1 << 62, -1 << 62,
		math.MaxInt, math.MaxInt - 1, math.MinInt, math.MinInt + 1, math.MinInt + 1<<20,
	}
}

// Numbers at both ends are taken at every place of a row, and one beyond them at any place is not, whatever the others are (P7.2).
func TestEndsOfNumbers(t *testing.T) {
	for _, s := range shapes() {
		for _, w := range ways() {
			for at := range s.n {
				for _, others := range []int{0, 1, 1 << 20, -1 << 20} {
					in := alike(s.n, others)
					for _, v := range []int{1 << 20, -1 << 20, 1<<20 - 1, 1 - 1<<20} {
						in[at] = v
						must(t, w, s.kind, in)
					}
					for _, v := range beyond() {
						in[at] = v
						refused(t, w, s.kind, in)
					}
				}
			}
		}
	}
}

// Where several things are wrong, it is ErrArg too, and nothing is answered beside it (P7.2).
func TestSeveralWrong(t *testing.T) {
	for _, w := range ways() {
		for _, v := range beyond() {
			for _, kind := range noKinds() {
				refused(t, w, kind, []int{v, 0, 0, 0})
				refused(t, w, kind, []int{0, 0, v})
				refused(t, w, kind, alike(64, v))
			}
			for kind := range 4 {
				refused(t, w, kind, []int{v})
				refused(t, w, kind, []int{0, 0, v})
				refused(t, w, kind, []int{v, v, v, v, v})
				refused(t, w, kind, alike(128, v))
			}
			refused(t, w, api.Wht, alike(8, v))
			refused(t, w, api.Wht, []int{v, v, v, v})
			refused(t, w, api.Dct, alike(64, v))
		}
		for _, kind := range noKinds() {
			refused(t, w, kind, nil)
			refused(t, w, kind, []int{})
			refused(t, w, kind, make([]int, 3))
		}
	}
}

// What is refused is refused again, and what stands beside ErrArg is no list (P7.2).
func TestRefusedIsNothing(t *testing.T) {
	for range 2 {
		if out, e := basis.Inverse(api.Dct, []int{1 << 21, 0, 0, 0}); out != nil || e != api.ErrArg {
			t.Errorf("Inverse: %v, %d", out, e)
		}
		if out, e := basis.Forward(api.Dct, []int{1 << 21, 0, 0, 0}); out != nil || e != api.ErrArg {
			t.Errorf("Forward: %v, %d", out, e)
		}
	}
}
