package quant_test

import (
	"math"
	"math/big"
	"math/bits"
	"testing"

	"zoetrope/api"
	"zoetrope/quant"
)

const end = 1 << 20 // coefficients and levels go so far, either way

// call is Level or Value, with what tells whether an answer of it is right.
type call struct {
	name  string
	do    func(v, step, size int) (int, api.Errno)
	right func(got, v, step, size int) bool
}

func calls() []call {
	return []call{{"Level", quant.Level, isLevel}, {"Value", quant.Value, isValue}}
}

func sizes() []int { return []int{4, 8, 16, 32, 64} }

// times is how many times as great as in the least sizes a coefficient counts; 0, where there is no such size.
func times(size int) int {
	for i, n := range [...]int{4, 8, 16, 32, 64} {
		if n == size {
			return [...]int{1, 1, 1, 2, 4}[i]
		}
	}
	return 0
}

// isLevel does not divide: it asks whether a step more would be too much, and whether there are as many as there may be.
func isLevel(got, coef, step, size int) bool {
	n, in := int64(got), int64(coef)
	if in < 0 {
		n, in = -n, -in
	}
	if n < 0 || n > end {
		return false
	}
	room := in*int64(times(size)) + int64(step/2) - n*int64(step)
	return room >= 0 && (room < int64(step) || n == end)
}

// isValue holds a value against one that is made of numbers of any length.
func isValue(got, level, step, size int) bool {
	n := new(big.Int).Mul(big.NewInt(int64(level)), big.NewInt(int64(step)))
	n.Abs(n)
	n.Rem(n, big.NewInt(1<<24))
	n.Div(n, big.NewInt(int64(times(size))))
	want := n.Int64()
	switch {
	case level < 0 && want > 32768:
		want = -32768
	case level < 0:
		want = -want
	case want > 32767:
		want = 32767
	}
	return int64(got) == want
}

// answers asks a call for just this.
func (c call) answers(t *testing.T, v, step, size, want int) {
	t.Helper()
	if got, e := c.do(v, step, size); got != want || e != api.OK {
		t.Errorf("%s(%d, %d, %d): %d, %d, want %d", c.name, v, step, size, got, e, want)
	}
}

// check asks a call for what it is to answer of what may be. (It is called by the million: to mark it as a helper would take time.)
func (c call) check(t *testing.T, v, step, size int) {
	got, e := c.do(v, step, size)
	if e != api.OK || !c.right(got, v, step, size) {
		t.Fatalf("%s(%d, %d, %d): %d, %d", c.name, v, step, size, got, e)
	}
}

// refused asks a call for ErrArg, and for nothing beside it.
func (c call) refused(t *testing.T, v, step, size int) {
	t.Helper()
	if got, e := c.do(v, step, size); got != 0 || e != api.ErrArg {
		t.Fatalf("%s(%d, %d, %d): %d, %d", c.name, v, step, size, got, e)
	}
}

// far are numbers that none may be, some of whose lower bits look as if they might.
func far() []int {
	l := []int{math.MaxInt, math.MaxInt - 1, math.MinInt, math.MinInt + 1, math.MinInt + 4, math.MaxInt32, math.MinInt32, 1 << 30, -1 << 30}
	if bits.UintSize > 32 {
		for _, v := range []int{0, 1, 4, 8, 64, 255, -1, -4} {
			for at := 32; at < bits.UintSize; at++ {
				l = append(l, v+1<<at, v-1<<at)
			}
		}
	}
	return l
}

// noSizes are numbers below 0, 0, those just beside each size, and others that are none.
func noSizes() []int {
	l := []int{-64, -32, -16, -8, -4, -2, -1, 0, 1, 2, 128, 256, 512, 1 << 16, end}
	for _, size := range sizes() {
		l = append(l, size-1, size+1, size+2, 3*size)
	}
	for n := range 130 {
		if times(n) == 0 {
			l = append(l, n)
		}
	}
	return append(l, far()...)
}

// noNumbers are beyond what coefficients and levels may be, noSteps beyond what steps may be.
func noNumbers() []int {
	return append([]int{end + 1, end + 2, -end - 1, -end - 2, 2 * end, -2 * end, 1 << 24, -1 << 24}, far()...)
}

func noSteps() []int {
	return append([]int{0, -1, -2, -7, 1<<15 + 1, 1<<15 + 2, 1 << 16, end, -1 << 15, -1<<15 - 1}, far()...)
}

// steps are both ends, what lies beside them and beside powers of 2, and the steps that frames have.
func steps() []int {
	l := []int{3, 5, 6, 7, 9, 10, 11, 12, 13, 48, 96, 1000, 10007, 23170, 30000}
	for at := range 16 {
		l = append(l, 1<<at)
		if at > 1 {
			l = append(l, 1<<at-1)
		}
		if at > 1 && at < 15 {
			l = append(l, 1<<at+1)
		}
	}
	for base := 0; base < 256; base += 15 {
		l = append(l, model(base, 0, 96), model(base, 0, 48))
	}
	return l
}

// model is a step: q is gone to one by one, and its square is counted off.
func model(base, delta, part int) int {
	q := base
	for ; delta > 0 && q < 255; delta-- {
		q++
	}
	for ; delta < 0 && q > 0; delta++ {
		q--
	}
	step := 4 + q
	for rest := q * q; rest >= part; rest -= part {
		step++
	}
	return step
}
