package quant_test

import (
	"testing"

	"zoetrope/api"
	"zoetrope/quant"
)

// must is the answer of a call of what may be. (Here nothing is marked as a helper: it takes time, and these are called by the million.)
func (c call) must(t *testing.T, v, step, size int) int {
	got, e := c.do(v, step, size)
	if e != api.OK {
		t.Fatalf("%s(%d, %d, %d): %d", c.name, v, step, size, e)
	}
	return got
}

// near asks whether a coefficient comes back within half a step, over its scale, and 1.
func near(t *testing.T, coef, step, size int) {
	level := calls()[0].must(t, coef, step, size)
	value := calls()[1].must(t, level, step, size)
	if most := step/2/times(size) + 1; value-coef > most || coef-value > most {
		t.Fatalf("%d by step %d and size %d: level %d, value %d", coef, step, size, level, value)
	}
}

// How near values come back: all coefficients of 16 bits by some steps, and some coefficients by all steps (P9.5).
func TestNear(t *testing.T) {
	for _, step := range []int{1, 2, 3, 4, 5, 8, 122, 936, 1613, 20001, 1<<15 - 1, 1 << 15} {
		for _, size := range []int{16, 32, 64} {
			for coef := -32768; coef <= 32767; coef++ {
				near(t, coef, step, size)
			}
		}
	}
	for step := 1; step <= 1<<15; step++ {
		for _, size := range sizes() {
			for _, coef := range []int{-32768, -32767, -step / 2, -1, 0, 1, 100, step/2 - 1, step / 2, step - 1, 9999, 32766, 32767} {
				near(t, coef, step, size)
			}
		}
	}
}

// With the steps that a frame may have no coefficient of 16 bits comes back farther away than that (P9.1, P9.5).
func TestNearByFrames(t *testing.T) {
	for base := 0; base < 256; base += 5 {
		all, e := quant.Steps(api.Head{Base: base, Deltas: [5]int{-31, -7, 3, 11, 31}})
		if e != api.OK {
			t.Fatalf("%d: %d", base, e)
		}
		for _, plane := range all {
			for _, step := range plane {
				for coef := -32768; coef <= 32767; coef += 37 {
					near(t, coef, step, 4)
					near(t, coef, step, 64)
				}
			}
		}
	}
}

// turns asks whether a level turns its sign with its coefficient, and a value with its level, but for -32768.
func turns(t *testing.T, v, step, size int) {
	level, value := calls()[0], calls()[1]
	if a, b := level.must(t, v, step, size), level.must(t, -v, step, size); a != -b {
		t.Fatalf("Level of %d by step %d and size %d: %d, of its contrary %d", v, step, size, a, b)
	}
	a, b := value.must(t, v, step, size), value.must(t, -v, step, size)
	if a != -b && min(a, b) != -32768 || a+b < -1 || a+b > 0 {
		t.Fatalf("Value of %d by step %d and size %d: %d, of its contrary %d", v, step, size, a, b)
	}
}

// Signs turn (P9.5).
func TestSignsTurn(t *testing.T) {
	l := numbers()
	for _, step := range steps() {
		for _, size := range sizes() {
			for _, v := range l {
				turns(t, v, step, size)
			}
		}
	}
}

// found asks whether a level is found again.
func found(t *testing.T, level, step, size int) {
	value := calls()[1].must(t, level, step, size)
	if again := calls()[0].must(t, value, step, size); again != level {
		t.Fatalf("level %d by step %d and size %d: value %d, level %d", level, step, size, value, again)
	}
}

// Levels are found again: all of which the document says so, each with its contrary (P9.6).
func TestLevelsFoundAgain(t *testing.T) {
	for step := 1; step < 1<<15; step++ {
		for level := 0; level*step < 1<<15; level++ {
			for _, size := range sizes() {
				if size <= 16 || step >= 6 {
					found(t, level, step, size)
					found(t, -level, step, size)
				}
			}
		}
	}
	for _, size := range sizes() {
		found(t, 0, 1<<15, size)
	}
}
