package cdf_test

import (
	"math"
	"slices"
	"testing"

	"zoetrope/api"
	"zoetrope/cdf"
)

func bounds(t *testing.T, x api.Table, s int, lo, hi uint32) {
	t.Helper()
	if a, b, got := cdf.Bounds(x, s); a != lo || b != hi || got != api.OK {
		t.Errorf("Bounds(%v, %d): got %d, %d, %d, want %d, %d", x, s, a, b, got, lo, hi)
	}
}

func find(t *testing.T, x api.Table, at uint32, s int) {
	t.Helper()
	if v, got := cdf.Find(x, at); v != s || got != api.OK {
		t.Errorf("Find(%v, %d): got %d, %d, want %d", x, at, v, got, s)
	}
}

// The chapter's rows of parts (P3.2).
func TestPartsExamples(t *testing.T) {
	flat, _ := cdf.Flat(2)
	bounds(t, flat, 0, 0, 16384)
	bounds(t, flat, 1, 16384, 32768)
	find(t, flat, 16383, 0)
	find(t, flat, 16384, 1)
	if s, x := cdf.Find(flat, 32768); s != 0 || x != 2 {
		t.Errorf("Find(Flat(2), 32768): %d, %d", s, x)
	}
	bounds(t, table(0, 0, 32768), 0, 0, 4)
	bounds(t, table(0, 0, 32768), 1, 4, 32768)
}

// Parts worked out by hand, of values that have next to nothing, and of those that have all of it (P3.2).
func TestPartsByHand(t *testing.T) {
	bounds(t, table(0, all, all), 0, 0, 32764)
	bounds(t, table(0, all, all), 1, 32764, 32768)
	bounds(t, table(0, 32767, all), 0, 0, 32763) // 32767 * 32760 >> 15 is 32759
	bounds(t, table(0, 1, all), 0, 0, 4)
	bounds(t, table(0, 2, all), 0, 0, 5)
	bounds(t, table(0, 10922, 21845, all), 1, 10922, 21845)
	x := split(16, 8, 0, all)
	bounds(t, x, 0, 0, 4)
	bounds(t, x, 7, 28, 32)
	bounds(t, x, 8, 32, 32740)
	bounds(t, x, 9, 32740, 32744)
	bounds(t, x, 15, 32764, 32768)
	for at, s := range map[uint32]int{0: 0, 3: 0, 4: 1, 31: 7, 32: 8, 32739: 8, 32740: 9, 32763: 14, 32764: 15, 32767: 15} {
		find(t, x, at, s)
	}
}

// The parts of every value, one behind the other, each 4 wide at least, and all of 32768 together; Count counts for nothing (P3.2, P3.6).
func TestPartsOfEveryTable(t *testing.T) {
	for n := 2; n <= 16; n++ {
		for _, x := range tables(t, n) {
			at := uint32(0)
			for s, end := range ends(x) {
				for _, count := range counts() {
					bounds(t, table(count, x.C...), s, at, end)
				}
				lo, hi, _ := cdf.Bounds(x, s)
				if lo != at || hi < lo+4 {
					t.Fatalf("%v: the part of %d is from %d to %d, behind %d", x, s, lo, hi, at)
				}
				at = hi
			}
			if at != all {
				t.Fatalf("%v: the parts end at %d", x, at)
			}
		}
	}
}

// Each place is in one part, which Find tells (P3.2, P3.6).
func TestFindEveryPlace(t *testing.T) {
	for n := 2; n <= 16; n++ {
		for _, x := range tables(t, n) {
			at := uint32(0)
			for s, end := range ends(x) {
				for ; at < end; at++ {
					if v, got := cdf.Find(x, at); v != s || got != api.OK {
						t.Fatalf("Find(%v, %d): got %d, %d, want %d", x, at, v, got, s)
					}
				}
			}
		}
		flat, _ := cdf.Flat(n)
		for _, count := range counts() {
			find(t, table(count, flat.C...), 0, 0)
			find(t, table(count, flat.C...), 32767, n-1)
		}
	}
}

// ErrArg of values and places that are outside (P3.2).
func TestPartsOutside(t *testing.T) {
	for n := 2; n <= 16; n++ {
		for _, x := range tables(t, n) {
			for _, s := range outside(n) {
				if lo, hi, got := cdf.Bounds(x, s); lo != 0 || hi != 0 || got != api.ErrArg {
					t.Errorf("Bounds(%v, %d): %d, %d, %d", x, s, lo, hi, got)
				}
			}
			for _, at := range []uint32{32768, 32769, 65535, 65536, 65540, 1 << 31, math.MaxUint32} {
				if s, got := cdf.Find(x, at); s != 0 || got != api.ErrArg {
					t.Errorf("Find(%v, %d): %d, %d", x, at, s, got)
				}
			}
		}
	}
}

// To check a table and to ask for its parts changes nothing, not even its spare room (P3.5).
func TestPartsOnlyRead(t *testing.T) {
	for n := 2; n <= 16; n++ {
		for _, keep := range tables(t, n) {
			x, room := roomy(keep)
			before := slices.Clone(room)
			cdf.Check(x)
			for s := range n {
				cdf.Bounds(x, s)
			}
			for at := range uint32(64) {
				cdf.Find(x, at*512)
			}
			if !slices.Equal(room, before) {
				t.Fatalf("%v has become %v", before, room)
			}
		}
	}
}
