package quant_test

import (
	"testing"
)

// Numbers at both ends are taken, with steps at both ends and of each size; none beyond them is, whatever the others are (P9.2).
func TestEndsOfNumbers(t *testing.T) {
	for _, c := range calls() {
		for _, size := range sizes() {
			for _, step := range []int{1, 2, 1<<15 - 1, 1 << 15} {
				for _, v := range []int{end, end - 1, -end, 1 - end, 0, 1, -1} {
					c.check(t, v, step, size)
				}
				for _, v := range noNumbers() {
					c.refused(t, v, step, size)
				}
			}
		}
	}
}

// Steps that none may be (P9.2).
func TestWrongSteps(t *testing.T) {
	for _, c := range calls() {
		for _, size := range sizes() {
			for _, step := range noSteps() {
				for _, v := range []int{0, 1, -1, 100, -100, end, -end} {
					c.refused(t, v, step, size)
				}
			}
		}
	}
}

// Sizes that are none: below 0, 0, just beside each size, and far away (P9.2).
func TestWrongSizes(t *testing.T) {
	for _, c := range calls() {
		for _, size := range noSizes() {
			for _, step := range []int{1, 7, 1 << 15} {
				for _, v := range []int{0, 1, -1, 100, end, -end} {
					c.refused(t, v, step, size)
				}
			}
		}
	}
}

// Where several things are wrong it is ErrArg too, and nothing stands beside it (P9.2).
func TestSeveralWrong(t *testing.T) {
	for _, c := range calls() {
		for _, v := range noNumbers() {
			for _, step := range noSteps() {
				c.refused(t, v, step, 4)
				c.refused(t, v, step, 64)
				c.refused(t, v, step, 5)
			}
			for _, size := range noSizes() {
				c.refused(t, v, 7, size)
			}
		}
		for _, step := range noSteps() {
			for _, size := range noSizes() {
				c.refused(t, 100, step, size)
				c.refused(t, end+1, step, size)
			}
		}
	}
}

// Nothing is kept: the same call answers the same again, whatever was asked between, refused among it (R2).
func TestNothingIsKept(t *testing.T) {
	for range 3 {
		for _, c := range calls() {
			c.refused(t, end+1, 7, 64)
		}
		calls()[0].answers(t, 100, 7, 64, 57)
		calls()[1].answers(t, 57, 7, 64, 99)
		stepsAre(t, 100, -31, 122, 172)
		noStep(t, 256, 0)
		calls()[0].answers(t, -100, 7, 4, -14)
		calls()[1].answers(t, -14, 7, 4, -98)
		stepsAre(t, 255, 31, 936, 1613)
	}
}
