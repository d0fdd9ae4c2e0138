package score_test

import (
	"math"
	"math/big"
	"slices"
	"testing"

	"zoetrope/api"
)

// What is expected is worked out in fractions of whole numbers, each of which is rounded when it becomes a float64, or told by a number's bits, and by none of the package's own calls.

// draws is a row of numbers that look mixed and are always the same.
type draws uint64

func (d *draws) below(n int) int {
	*d = *d*6364136223846793005 + 1442695040888963407
	return int(uint64(*d) >> 33 % uint64(n))
}

// word is any number of 64 bits.
func (d *draws) word() uint64 {
	return uint64(d.below(1<<31))<<33 ^ uint64(d.below(1<<31))<<12 ^ uint64(d.below(1<<31))
}

// count is a number of 64 bits, of few of them as often as of many.
func (d *draws) count() uint64 { return d.word() >> d.below(64) }

// float is a number of any sign whose power of 2 lies between two.
func (d *draws) float(low, high int) float64 {
	x := math.Ldexp(1+float64(d.word()>>12)/(1<<52), low+d.below(high-low+1))
	if d.below(2) == 0 {
		return -x
	}
	return x
}

func (d *draws) plane(w, h int) api.Plane {
	b := make([]uint8, w*h)
	for i := range b {
		b[i] = uint8(d.below(256))
	}
	return api.Plane{W: w, H: h, Pix: b}
}

// order is the numbers below n, mixed.
func (d *draws) order(n int) []int {
	l := make([]int, n)
	for i := range l {
		j := d.below(i + 1)
		l[i], l[j] = l[j], i
	}
	return l
}

// row is a plane of one row.
func row(l ...uint8) api.Plane { return api.Plane{W: len(l), H: 1, Pix: l} }

// alike is a plane whose samples are all v.
func alike(w, h int, v uint8) api.Plane {
	return api.Plane{W: w, H: h, Pix: slices.Repeat([]uint8{v}, w*h)}
}

// twin is the same plane in memory of its own.
func twin(p api.Plane) api.Plane { return api.Plane{W: p.W, H: p.H, Pix: slices.Clone(p.Pix)} }

// changed is a plane one of whose samples is another.
func changed(p api.Plane, i int, v uint8) api.Plane {
	p = twin(p)
	p.Pix[i] = v
	return p
}

// shapes are sizes that planes may have: small ones, both ends, and what lies beside them.
func shapes() [][2]int {
	return [][2]int{{1, 1}, {1, 2}, {2, 1}, {2, 2}, {3, 2}, {2, 3}, {5, 4}, {4, 7}, {8, 8}, {9, 17}, {64, 33}, {1, 512}, {512, 1}, {2, 511}, {511, 2}, {255, 257}, {512, 512}}
}

// wrong are planes that may not be.
func wrong() []api.Plane {
	few := []uint8{1, 2, 3, 4, 5, 6}
	return []api.Plane{
		{}, {W: 1}, {H: 1}, {W: 1, H: 1}, {W: 2, H: 1}, {W: 512, H: 512}, {Pix: few}, {Pix: []uint8{}}, {W: 0, H: 6, Pix: few}, {W: 6, H: 0, Pix: few}, {W: 0, H: 6}, {W: 6, H: 0},
		{W: 2, H: 1, Pix: few[:1]}, {W: 2, H: 1, Pix: few[:3]}, {W: 2, H: 3, Pix: few[:5]}, {W: 2, H: 2, Pix: few}, {W: 3, H: 3, Pix: few},
		{W: -2, H: -3, Pix: few}, {W: -1, H: 6, Pix: few}, {W: 6, H: -1, Pix: few}, {W: -1, H: -1, Pix: few[:1]}, {W: math.MinInt, H: 2}, {W: math.MaxInt, H: math.MaxInt, Pix: few[:1]}, {W: 1 << 32, H: 1 << 32},
		alike(513, 1, 3), alike(1, 513, 3), alike(513, 512, 3), alike(512, 513, 3), alike(1024, 2, 3),
		{W: 512, H: 512, Pix: make([]uint8, 1<<18-1)}, {W: 512, H: 512, Pix: make([]uint8, 1<<18+1)},
	}
}

// nones are numbers that are none, of several bits.
func nones() []float64 {
	l := []float64{math.NaN()}
	for _, b := range []uint64{0x7ff8000000000000, 0xfff8000000000000, 0x7ff0000000000001, 0xfff0000000000001, 0x7fffffffffffffff, 0xffffffffffffffff} {
		l = append(l, math.Float64frombits(b))
	}
	return l
}

func infinite() float64 { return math.Inf(1) }

// minusZero is 0 below 0, which the language's own -0 is not.
func minusZero() float64 { return math.Copysign(0, -1) }

// least is the number next to 0.
func least() float64 { return math.SmallestNonzeroFloat64 }

// fraction is a finite number as it is.
func fraction(x float64) *big.Rat { return new(big.Rat).SetFloat64(x) }

// whole is a whole number as it is.
func whole(n uint64) *big.Rat { return new(big.Rat).SetInt(new(big.Int).SetUint64(n)) }

// rounded is the number next to a fraction, infinite where it leaves the range.
func rounded(r *big.Rat) float64 {
	x, _ := r.Float64()
	return x
}

// equal tells whether two numbers are the same, with their signs, or both none.
func equal(a, b float64) bool {
	if a != a || b != b {
		return a != a && b != b
	}
	return a == b && math.Signbit(a) == math.Signbit(b)
}

// is asks for a number.
func is(t *testing.T, got, want float64, what string, about ...any) {
	t.Helper()
	if !equal(got, want) {
		t.Errorf(what+": got %v, want %v", append(about, got, want)...)
	}
}
