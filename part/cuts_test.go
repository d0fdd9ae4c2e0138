package part_test

import (
	"testing"

	"zoetrope/api"
)

// The chapter's rows (P16.1).
func TestCutsOfExamples(t *testing.T) {
	cutIs(t, rect(0, 0, 16, 16), api.PartHorzA, rect(0, 0, 8, 8), rect(8, 0, 8, 8), rect(0, 8, 16, 8))
	cutIs(t, rect(8, 0, 32, 32), api.PartVert4, rect(8, 0, 8, 32), rect(16, 0, 8, 32), rect(24, 0, 8, 32), rect(32, 0, 8, 32))
	noCut(t, rect(0, 0, 8, 8), 1)
	noCut(t, rect(4, 0, 8, 8), 0)
	noCut(t, rect(0, 0, 16, 16), 8)
	noCut(t, rect(0, 0, 16, 8), 0)
}

// All partitions of one region, worked out by hand (P16.1).
func TestCutsByHand(t *testing.T) {
	r := rect(8, 40, 64, 64)
	for kind, want := range [][]api.Rect{
		{rect(8, 40, 64, 64)},
		{rect(8, 40, 64, 32), rect(8, 72, 64, 32)},
		{rect(8, 40, 32, 64), rect(40, 40, 32, 64)},
		{rect(8, 40, 32, 32), rect(40, 40, 32, 32), rect(8, 72, 32, 32), rect(40, 72, 32, 32)},
		{rect(8, 40, 32, 32), rect(40, 40, 32, 32), rect(8, 72, 64, 32)},
		{rect(8, 40, 64, 32), rect(8, 72, 32, 32), rect(40, 72, 32, 32)},
		{rect(8, 40, 32, 32), rect(8, 72, 32, 32), rect(40, 40, 32, 64)},
		{rect(8, 40, 32, 64), rect(40, 40, 32, 32), rect(40, 72, 32, 32)},
		{rect(8, 40, 64, 16), rect(8, 56, 64, 16), rect(8, 72, 64, 16), rect(8, 88, 64, 16)},
		{rect(8, 40, 16, 64), rect(24, 40, 16, 64), rect(40, 40, 16, 64), rect(56, 40, 16, 64)},
	} {
		cutIs(t, r, kind, want...)
	}
	cutIs(t, rect(2048, 0, 8, 8), api.PartNone, rect(2048, 0, 8, 8))
	cutIs(t, rect(0, 2048, 16, 16), api.PartVertB, rect(0, 2048, 8, 16), rect(8, 2048, 8, 8), rect(8, 2056, 8, 8))
	cutIs(t, rect(24, 8, 32, 32), api.PartHorz4, rect(24, 8, 32, 8), rect(24, 16, 32, 8), rect(24, 24, 32, 8), rect(24, 32, 32, 8))
}

// Every partition of every size: at both ends of what places may be, at every place along each side, and at many others (P16.1).
func TestCuts(t *testing.T) {
	asDrawn := func(x, y int) {
		t.Helper()
		for _, size := range sizes() {
			for kind := range many(size) {
				r := region(x, y, size)
				cutIs(t, r, kind, drawn(r, kind)...)
			}
		}
	}
	for at := 0; at <= lastOfRegion; at += 8 {
		for _, o := range []int{0, 8, 1016, 1024, 1032, 2040, lastOfRegion} {
			asDrawn(at, o)
			asDrawn(o, at)
		}
	}
}
