package quant_test

import (
	"testing"

	"zoetrope/api"
	"zoetrope/quant"
)

// stepsAre asks Dc and Ac for just these.
func stepsAre(t *testing.T, base, delta, dc, ac int) {
	t.Helper()
	if got, e := quant.Dc(base, delta); got != dc || e != api.OK {
		t.Errorf("Dc(%d, %d): %d, %d, want %d", base, delta, got, e, dc)
	}
	if got, e := quant.Ac(base, delta); got != ac || e != api.OK {
		t.Errorf("Ac(%d, %d): %d, %d, want %d", base, delta, got, e, ac)
	}
}

// noStep asks Dc and Ac for ErrArg, and for nothing beside it.
func noStep(t *testing.T, base, delta int) {
	t.Helper()
	if got, e := quant.Dc(base, delta); got != 0 || e != api.ErrArg {
		t.Errorf("Dc(%d, %d): %d, %d", base, delta, got, e)
	}
	if got, e := quant.Ac(base, delta); got != 0 || e != api.ErrArg {
		t.Errorf("Ac(%d, %d): %d, %d", base, delta, got, e)
	}
}

// The chapter's rows of steps (P9.1).
func TestStepExamples(t *testing.T) {
	stepsAre(t, 0, 0, 4, 4)
	stepsAre(t, 255, 31, 936, 1613)
	stepsAre(t, 255, 0, 936, 1613)
	stepsAre(t, 100, -31, 122, 172)
	stepsAre(t, 100, 10, 240, 366)
	noStep(t, 256, 0)
	noStep(t, 0, 32)
	noStep(t, -1, 0)
}

// Steps just where a part more of the square counts, and q at both ends, brought there from beyond (P9.1).
func TestChosenSteps(t *testing.T) {
	for _, c := range []struct{ base, delta, dc, ac int }{
		{1, 0, 5, 5}, {6, 0, 10, 10}, {7, 0, 11, 12}, {9, 0, 13, 14}, {10, 0, 15, 16}, {9, 1, 15, 16}, {11, -1, 15, 16},
		{13, 0, 18, 20}, {14, 0, 20, 22}, {48, 0, 76, 100}, {96, 0, 196, 292}, {95, 0, 193, 287},
		{0, -1, 4, 4}, {0, -31, 4, 4}, {30, -31, 4, 4}, {31, -31, 4, 4}, {32, -31, 5, 5},
		{254, 0, 930, 1602}, {254, 1, 936, 1613}, {255, -1, 930, 1602}, {224, 31, 936, 1613}, {225, 31, 936, 1613}, {223, 31, 930, 1602},
	} {
		stepsAre(t, c.base, c.delta, c.dc, c.ac)
	}
}

// Every base with every delta that may be, and all those about them that may not (P9.1).
func TestEveryStep(t *testing.T) {
	for base := -40; base < 300; base++ {
		for delta := -70; delta <= 70; delta++ {
			if base < 0 || base > 255 || delta < -31 || delta > 31 {
				noStep(t, base, delta)
			} else {
				stepsAre(t, base, delta, model(base, delta, 96), model(base, delta, 48))
			}
		}
	}
}

// Bases and deltas far away, alone, both, and such as would come back to what may be (P9.1, R1).
func TestStepsFarAway(t *testing.T) {
	for _, v := range far() {
		for _, w := range []int{0, 1, -1, 31, -31, 32, -32, 128, 255, 256, -v, v, 100 - v, -1 - v} {
			noStep(t, v, w)
			noStep(t, w, v)
		}
	}
}

// Steps rise with base and with delta, or stay; one of AC is no less than that of DC; from 4 to 1613, and both are reached (P9.4).
func TestStepsRise(t *testing.T) {
	least, greatest := 1<<30, 0
	for base := range 256 {
		for delta := -31; delta <= 31; delta++ {
			dc, _ := quant.Dc(base, delta)
			ac, _ := quant.Ac(base, delta)
			least, greatest = min(least, dc, ac), max(greatest, dc, ac)
			if ac < dc {
				t.Errorf("%d, %d: %d of AC, %d of DC", base, delta, ac, dc)
			}
			for _, next := range [][2]int{{base + 1, delta}, {base, delta + 1}} {
				higher, e := quant.Dc(next[0], next[1])
				if e == api.OK && higher < dc {
					t.Errorf("Dc(%d, %d): %d, and of %v %d", base, delta, dc, next, higher)
				}
				higher, e = quant.Ac(next[0], next[1])
				if e == api.OK && higher < ac {
					t.Errorf("Ac(%d, %d): %d, and of %v %d", base, delta, ac, next, higher)
				}
			}
		}
	}
	if least != 4 || greatest != 1613 {
		t.Errorf("from %d to %d", least, greatest)
	}
}
