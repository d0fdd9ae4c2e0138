package quant_test

import (
	"slices"
	"testing"

	"zoetrope/api"
	"zoetrope/quant"
)

// others are heads in which one field is not zero that counts for nothing, and one in which all of them are such.
func others() []api.Head {
	l := []api.Head{
		{Existing: true}, {Slot: 7}, {Slot: -1}, {Show: true}, {Key: true}, {Refresh: 255}, {Refresh: -1}, {Refs: [3]int{1, 2, 3}}, {Refs: [3]int{-1, 300, 8}},
		{Primary: -1}, {Primary: 7}, {Cols: 4}, {Cols: -1}, {Rows: 4}, {Rows: 1 << 30}, {NoAdapt: true}, {Levels: [4]int{63, 1, 2, 64}}, {Sharp: 7}, {Sharp: -1},
		{Cdef: true}, {Damping: 6}, {CdefBits: 3}, {Strengths: []api.Strength{{YPri: 15, YSec: 3, UVPri: -1, UVSec: 300}, {}}}, {Strengths: []api.Strength{}}, {Restore: [3]bool{true, false, true}},
	}
	return append(l, api.Head{}, api.Head{
		Existing: true, Slot: 3, Show: true, Key: true, Refresh: 129, Refs: [3]int{7, 6, 5}, Primary: 2, Cols: 1, Rows: 2, NoAdapt: true,
		Levels: [4]int{9, 8, 7, 6}, Sharp: 5, Cdef: true, Damping: 3, CdefBits: 1, Strengths: make([]api.Strength, 2), Restore: [3]bool{true, true, true},
	})
}

// headIs asks Steps for just this, whatever the other fields are.
func headIs(t *testing.T, base int, deltas [5]int, want [3][2]int) {
	t.Helper()
	for i, h := range others() {
		h.Base, h.Deltas = base, deltas
		if got, e := quant.Steps(h); got != want || e != api.OK {
			t.Fatalf("Steps of %d, %v, with other fields %d: %v, %d, want %v", base, deltas, i, got, e, want)
		}
	}
}

// headIsNone asks Steps for ErrArg, and for nothing beside it.
func headIsNone(t *testing.T, base int, deltas [5]int) {
	t.Helper()
	for i, h := range others() {
		h.Base, h.Deltas = base, deltas
		if got, e := quant.Steps(h); got != [3][2]int{} || e != api.ErrArg {
			t.Fatalf("Steps of %d, %v, with other fields %d: %v, %d", base, deltas, i, got, e)
		}
	}
}

// of is what Steps is to answer of a head that may be.
func of(base int, d [5]int) [3][2]int {
	return [3][2]int{
		{model(base, d[0], 96), model(base, 0, 48)},
		{model(base, d[1], 96), model(base, d[2], 48)},
		{model(base, d[3], 96), model(base, d[4], 48)},
	}
}

// Which delta goes with which step (P9.3).
func TestChosenHeads(t *testing.T) {
	headIs(t, 10, [5]int{1, 2, 3, 4, 5}, [3][2]int{{16, 16}, {17, 20}, {20, 23}})
	headIs(t, 0, [5]int{}, [3][2]int{{4, 4}, {4, 4}, {4, 4}})
	headIs(t, 255, [5]int{}, [3][2]int{{936, 1613}, {936, 1613}, {936, 1613}})
	headIs(t, 100, [5]int{-31, 10, 10, -31, 31}, [3][2]int{{122, 312}, {240, 366}, {122, 492}})
	headIs(t, 0, [5]int{-31, -31, -31, -31, -31}, [3][2]int{{4, 4}, {4, 4}, {4, 4}})
	headIs(t, 255, [5]int{31, 31, 31, 31, 31}, [3][2]int{{936, 1613}, {936, 1613}, {936, 1613}})
}

// Every base, with each delta at every number that it may be and all others apart from it (P9.3).
func TestEveryHead(t *testing.T) {
	for base := range 256 {
		for at := range 5 {
			for delta := -31; delta <= 31; delta++ {
				d := [5]int{-7, 5, -3, 11, 20}
				d[at] = delta
				h := api.Head{Base: base, Deltas: d}
				if got, e := quant.Steps(h); got != of(base, d) || e != api.OK {
					t.Fatalf("Steps of %d, %v: %v, %d, want %v", base, d, got, e, of(base, d))
				}
			}
		}
	}
}

// Base and each of Deltas at both ends, beside others at either end (P9.3).
func TestEndsOfHeads(t *testing.T) {
	for _, base := range []int{0, 1, 100, 254, 255} {
		for at := range 5 {
			for _, rest := range []int{-31, 0, 31} {
				for _, delta := range []int{-31, -30, -1, 0, 1, 30, 31} {
					d := [5]int{rest, rest, rest, rest, rest}
					d[at] = delta
					headIs(t, base, d, of(base, d))
				}
			}
		}
	}
}

// Base and each of Deltas just beyond and far beyond both ends, alone and several of them (P9.3).
func TestWrongHeads(t *testing.T) {
	for _, v := range append(far(), 256, 257, 512, -1, -2, -255) {
		headIsNone(t, v, [5]int{})
		headIsNone(t, v, [5]int{31, -31, 31, -31, 31})
		headIsNone(t, v, [5]int{32, 0, 0, 0, -32})
	}
	for at := range 5 {
		for _, v := range append(far(), 32, 33, 64, -32, -33, -64, 255, -255) {
			for _, rest := range []int{-31, 0, 31, 32, v} {
				d := [5]int{rest, rest, rest, rest, rest}
				d[at] = v
				headIsNone(t, 0, d)
				headIsNone(t, 255, d)
				headIsNone(t, 300, d)
			}
		}
	}
}

// A head loses nothing if Base and all Deltas are 0, and by nothing else: neither others' numbers nor sums of 0 (P9.3).
func TestLossless(t *testing.T) {
	for i, h := range others() {
		if !quant.Lossless(h) {
			t.Errorf("other fields %d: not lossless", i)
		}
		for _, v := range append(far(), 1, 2, 31, 32, 255, 256, -1, -2, -31, -32, 1<<8, 1<<16) {
			h.Base, h.Deltas = v, [5]int{}
			loses(t, h)
			for at := range 5 {
				h.Base, h.Deltas = 0, [5]int{}
				h.Deltas[at] = v
				loses(t, h)
				h.Base = -v
				loses(t, h)
				h.Base = 0
				h.Deltas[(at+1)%5] = -v
				loses(t, h)
			}
		}
		h.Base, h.Deltas = 1, [5]int{1, 1, 1, 1, 1}
		loses(t, h)
	}
}

func loses(t *testing.T, h api.Head) {
	t.Helper()
	if quant.Lossless(h) {
		t.Errorf("Base %d, Deltas %v: lossless", h.Base, h.Deltas)
	}
}

// What a head has besides is neither changed nor kept, its list's spare room neither (P9.3, R2).
func TestHeadsOnlyRead(t *testing.T) {
	room := []api.Strength{{YPri: 1}, {YSec: 2}, {UVPri: 3}, {UVSec: 4}}
	before := slices.Clone(room)
	for _, base := range []int{0, 10, 255, 256} {
		h := api.Head{Base: base, Deltas: [5]int{1, 2, 3, 4, 5}, Strengths: room[:2]}
		first, e := quant.Steps(h)
		quant.Lossless(h)
		keep := first
		first[2][1] = -1
		quant.Steps(api.Head{Base: 77, Deltas: [5]int{-5, -4, -3, -2, -1}})
		quant.Steps(api.Head{Base: -1})
		if again, f := quant.Steps(h); again != keep || f != e {
			t.Errorf("%d: %v, %d, and the next time %v, %d", base, keep, e, again, f)
		}
		if !slices.Equal(room, before) {
			t.Errorf("%d: changed", base)
		}
	}
}
