package basis_test

import (
	"math"
	"math/big"
	"slices"
	"testing"

	"zoetrope/api"
	"zoetrope/basis"
)

// What is expected is worked out with the library's cosines and sines, in sums of whole numbers of any length, and by none of the package's own calls.

// draws is a row of numbers that look mixed and are always the same.
type draws uint64

func (d *draws) below(n int) int {
	*d = *d*6364136223846793005 + 1442695040888963407
	return int(uint64(*d) >> 33 % uint64(n))
}

// between is a number from a to b.
func (d *draws) between(a, b int) int { return a + d.below(b-a+1) }

// row is n numbers from -end to end.
func (d *draws) row(n, end int) []int {
	l := make([]int, n)
	for i := range l {
		l[i] = d.between(-end, end)
	}
	return l
}

// ends is n numbers, each of them one of a few.
func (d *draws) ends(n int, few ...int) []int {
	l := make([]int, n)
	for i := range l {
		l[i] = few[d.below(len(few))]
	}
	return l
}

// way is one of both calls, with its name.
type way struct {
	name string
	call func(kind int, in []int) ([]int, api.Errno)
	want func(kind int, in []int) []int
}

func ways() []way {
	return []way{{"Inverse", basis.Inverse, inverse}, {"Forward", basis.Forward, forward}}
}

// shape is a kind, and a length that its rows have.
type shape struct{ kind, n int }

// weighted are the shapes of all kinds but Wht.
func weighted() []shape {
	return []shape{
		{api.Dct, 4}, {api.Dct, 8}, {api.Dct, 16}, {api.Dct, 32}, {api.Dct, 64},
		{api.Adst, 4}, {api.Adst, 8}, {api.Adst, 16},
		{api.Ident, 4}, {api.Ident, 8}, {api.Ident, 16}, {api.Ident, 32},
	}
}

func shapes() []shape { return append(weighted(), shape{api.Wht, 4}) }

// noKinds are numbers that no kind is.
func noKinds() []int {
	return []int{-1, -2, -3, -4, -256, 4, 5, 6, 7, 8, 9, 16, 256, 257, 1 << 32, 1<<32 + 1, 1<<32 + 3, -1 << 32, 1<<32 - 1, math.MinInt, math.MinInt + 1, math.MinInt + 3, math.MaxInt, math.MaxInt - 1}
}

// single is a row of n noughts, but for one number.
func single(n, at, v int) []int {
	l := make([]int, n)
	l[at] = v
	return l
}

// alike is a row of n numbers v.
func alike(n, v int) []int { return slices.Repeat([]int{v}, n) }

// weight is how much of sample i coefficient k is, but of Wht.
func weight(s shape, k, i int) int {
	x, y, n := float64(2*i+1), float64(k), float64(s.n)
	switch {
	case s.kind == api.Dct && k == 0:
		return int(math.Round(4096 * math.Sqrt(0.5)))
	case s.kind == api.Dct:
		return int(math.Round(4096 * math.Cos(math.Pi*x*y/(2*n))))
	case s.kind == api.Adst:
		return int(math.Round(4096 * math.Sin(math.Pi*x*(2*y+1)/(4*n))))
	case k != i:
		return 0
	}
	return map[int]int{4: 5793, 8: 8192, 16: 11586, 32: 16384}[s.n] // of 16 twice that of 4, which is 1 more than the nearest
}

// down is a / b, rounded down.
func down(a *big.Int, b int64) int {
	return int(new(big.Int).Div(a, big.NewInt(b)).Int64()) // of a b above 0 Div rounds down
}

// half is half of a number, rounded down.
func half(a int) int { return down(big.NewInt(int64(a)), 2) }

// nearest is sum / 4096, to the nearest, up from the middle.
func nearest(sum *big.Int) int {
	twice := new(big.Int).Lsh(sum, 1)
	return down(twice.Add(twice, big.NewInt(4096)), 8192)
}

// total is the sum of a row's products with weights.
func total(in []int, weigh func(j int) int) *big.Int {
	sum := new(big.Int)
	for j, v := range in {
		sum.Add(sum, new(big.Int).Mul(big.NewInt(int64(v)), big.NewInt(int64(weigh(j)))))
	}
	return sum
}

// inverse is what Inverse is to answer of a row that may be.
func inverse(kind int, in []int) []int {
	if kind == api.Wht {
		e := half(in[0] + in[1] - in[2] + in[3])
		return []int{in[0] + in[1] + in[3] - e, e - in[3], e - in[1], in[2] - in[3] - in[1] + e}
	}
	out := make([]int, len(in))
	for i := range out {
		out[i] = nearest(total(in, func(k int) int { return weight(shape{kind, len(in)}, k, i) }))
	}
	return out
}

// forward is what Forward is to answer of a row that may be.
func forward(kind int, in []int) []int {
	if kind == api.Wht {
		e := half(in[0] + in[1] + in[2] - in[3])
		return []int{in[0] + in[1] + in[2] - e, e - in[2], in[3] - in[2] - in[1] + e, e - in[1]}
	}
	out := make([]int, len(in))
	for k := range out {
		out[k] = nearest(total(in, func(i int) int { return weight(shape{kind, len(in)}, k, i) }))
	}
	return out
}

// must is the answer of a call that is to answer.
func must(t *testing.T, w way, kind int, in []int) []int {
	t.Helper()
	out, e := w.call(kind, in)
	if e != api.OK || len(out) != len(in) {
		t.Fatalf("%s(%d, %d numbers): %d numbers, %d", w.name, kind, len(in), len(out), e)
	}
	return out
}

// check asks a call for what it is to answer.
func check(t *testing.T, w way, kind int, in []int) {
	t.Helper()
	if out, want := must(t, w, kind, in), w.want(kind, in); !slices.Equal(out, want) {
		t.Fatalf("%s(%d, %v): got %v, want %v", w.name, kind, in, out, want)
	}
}

// refused asks a call for ErrArg, and for nothing beside it.
func refused(t *testing.T, w way, kind int, in []int) {
	t.Helper()
	if out, e := w.call(kind, in); e != api.ErrArg || len(out) != 0 {
		t.Fatalf("%s(%d, %d numbers): %d numbers, %d", w.name, kind, len(in), len(out), e)
	}
}
