package quant_test

import (
	"testing"
)

// The chapter's rows of levels (P9.2).
func TestLevelExamples(t *testing.T) {
	c := calls()[0]
	c.answers(t, 100, 7, 4, 14)
	c.answers(t, -100, 7, 4, -14)
	c.answers(t, 3, 7, 4, 0)
	c.answers(t, 100, 7, 32, 29)
	c.answers(t, 100, 7, 64, 57)
	c.refused(t, 0, 0, 4)
	c.refused(t, 1<<20+1, 1, 4)
}

// Coefficients that round down, up, and just between, which goes up; of steps that are odd half of one is less than half. Each with its contrary, of which nothing is rounded otherwise (P9.2).
func TestLevelsRounded(t *testing.T) {
	c := calls()[0]
	for _, x := range []struct{ coef, step, size, want int }{
		{0, 1, 4, 0}, {0, 1 << 15, 64, 0}, {1, 1, 4, 1}, {1, 1, 32, 2}, {1, 1, 64, 4},
		{1, 2, 4, 1}, {2, 2, 4, 1}, {3, 2, 4, 2}, {1, 3, 4, 0}, {2, 3, 4, 1}, {4, 3, 4, 1}, {5, 3, 4, 2},
		{4, 10, 8, 0}, {5, 10, 8, 1}, {6, 10, 8, 1}, {14, 10, 8, 1}, {15, 10, 8, 2}, {16, 10, 8, 2},
		{3, 7, 16, 0}, {4, 7, 16, 1}, {10, 7, 16, 1}, {11, 7, 16, 2},
		{2, 10, 32, 0}, {3, 10, 32, 1}, {7, 10, 32, 1}, {8, 10, 32, 2}, {1, 4, 32, 1}, {1, 5, 32, 0},
		{1, 10, 64, 0}, {2, 10, 64, 1}, {3, 10, 64, 1}, {4, 10, 64, 2}, {1, 8, 64, 1}, {1, 9, 64, 0},
		{16383, 1 << 15, 4, 0}, {16384, 1 << 15, 4, 1}, {16382, 32767, 4, 0}, {16383, 32767, 4, 0}, {16384, 32767, 4, 1},
		{8191, 1 << 15, 32, 0}, {8192, 1 << 15, 32, 1}, {4095, 1 << 15, 64, 0}, {4096, 1 << 15, 64, 1},
		{32767, 4, 4, 8192}, {32768, 4, 4, 8192}, {32767, 1613, 64, 81}, {32768, 1613, 32, 41},
	} {
		c.answers(t, x.coef, x.step, x.size, x.want)
		c.answers(t, -x.coef, x.step, x.size, -x.want)
	}
}

// Levels come to 2^20 and no further (P9.2).
func TestMostLevels(t *testing.T) {
	c := calls()[0]
	for _, x := range []struct{ coef, step, size, want int }{
		{end, 1, 4, end}, {end, 1, 8, end}, {end, 1, 16, end}, {end - 1, 1, 4, end - 1}, {end, 2, 4, end / 2},
		{end, 1, 32, end}, {end / 2, 1, 32, end}, {end/2 + 1, 1, 32, end}, {end/2 - 1, 1, 32, end - 2}, {end, 2, 32, end}, {end - 1, 2, 32, end - 1}, {end, 3, 32, 699051},
		{end, 1, 64, end}, {end / 4, 1, 64, end}, {end/4 + 1, 1, 64, end}, {end/4 - 1, 1, 64, end - 4}, {end, 3, 64, end}, {end, 4, 64, end}, {end - 1, 4, 64, end - 1}, {end, 5, 64, 838861}, {end / 2, 2, 64, end}, {end/2 + 1, 2, 64, end},
		{end, 1 << 15, 4, 32}, {end, 1 << 15, 32, 64}, {end, 1 << 15, 64, 128},
	} {
		c.answers(t, x.coef, x.step, x.size, x.want)
		c.answers(t, -x.coef, x.step, x.size, -x.want)
	}
}

// numbers are many coefficients or levels: all small ones, those beside both ends of 16 bits and beside both ends themselves, and some in between.
func numbers() []int {
	var l []int
	for v := range 300 {
		l = append(l, v, -v-1, 32600+v, -32600-v, end-v, v-end)
	}
	for at := range 21 {
		for by := -2; by <= 2; by++ {
			if v := 1<<at + by; v <= end {
				l = append(l, v, -v)
			}
		}
	}
	for v := -end; v <= end; v += 1009 {
		l = append(l, v)
	}
	return l
}

// Many numbers with many steps, of each size (P9.2).
func TestManyNumbers(t *testing.T) {
	l := numbers()
	for _, c := range calls() {
		for _, step := range steps() {
			for _, size := range sizes() {
				for _, v := range l {
					c.check(t, v, step, size)
				}
			}
		}
	}
}

// Every number that may be, with a few steps (P9.2).
func TestEveryNumber(t *testing.T) {
	for i, step := range []int{1, 16, 1613} {
		for v := -end; v <= end; v++ {
			calls()[0].check(t, v, step, sizes()[2+i])
		}
	}
	for v := -end; v <= end; v += 3 {
		calls()[1].check(t, v, 17, 64)
	}
}

// Every step that may be, with a few numbers (P9.2).
func TestEveryStepOfNumbers(t *testing.T) {
	for step := 1; step <= 1<<15; step++ {
		for _, size := range []int{4, 32, 64} {
			for _, v := range []int{step / 2, -step, 1, -1000, 32767, -32768, end, -end, end - 1} {
				for _, c := range calls() {
					c.check(t, v, step, size)
				}
			}
		}
	}
}
