package cdf_test

import (
	"math"
	"slices"
	"testing"

	"zoetrope/api"
	"zoetrope/cdf"
)

// The chapter's row of tables that are made (P3.1).
func TestMadeExamples(t *testing.T) {
	for _, c := range []struct {
		name string
		make func(int) (api.Table, api.Errno)
		n    int
		want []uint16
		x    api.Errno
	}{
		{"Flat", cdf.Flat, 2, []uint16{16384, 32768}, 0},
		{"Flat", cdf.Flat, 3, []uint16{10922, 21845, 32768}, 0},
		{"Steep", cdf.Steep, 4, []uint16{16384, 24576, 28672, 32768}, 0},
		{"Flat", cdf.Flat, 1, nil, 2},
		{"Steep", cdf.Steep, 17, nil, 2},
		{"Steep", cdf.Steep, 2, []uint16{16384, 32768}, 0},
		{"Flat", cdf.Flat, 16, []uint16{2048, 4096, 6144, 8192, 10240, 12288, 14336, 16384, 18432, 20480, 22528, 24576, 26624, 28672, 30720, 32768}, 0},
		{"Steep", cdf.Steep, 16, []uint16{16384, 24576, 28672, 30720, 31744, 32256, 32512, 32640, 32704, 32736, 32752, 32760, 32764, 32766, 32767, 32768}, 0},
	} {
		if got, x := c.make(c.n); !same(got, table(0, c.want...)) || x != c.x {
			t.Errorf("%s(%d): got %v, %d", c.name, c.n, got, x)
		}
	}
}

// Tables of every n, and they may be (P3.1, P3.7).
func TestMadeOfEveryN(t *testing.T) {
	for n := 2; n <= 16; n++ {
		flat, x := cdf.Flat(n)
		steep, y := cdf.Steep(n)
		if len(flat.C) != n || len(steep.C) != n || flat.Count != 0 || steep.Count != 0 || x != api.OK || y != api.OK {
			t.Fatalf("%d: %v, %d; %v, %d", n, flat, x, steep, y)
		}
		left := 32768
		for i := range n {
			if want := 32768 * (i + 1) / n; int(flat.C[i]) != want {
				t.Errorf("Flat(%d), %d: got %d, want %d", n, i, flat.C[i], want)
			}
			left /= 2
			if i == n-1 {
				left = 0
			}
			if int(steep.C[i]) != 32768-left {
				t.Errorf("Steep(%d), %d: got %d, want %d", n, i, steep.C[i], 32768-left)
			}
		}
		if cdf.Check(flat) != api.OK || cdf.Check(steep) != api.OK {
			t.Errorf("%d: the tables may not be", n)
		}
	}
}

// ErrArg, unless n is from 2 to 16 (P3.1).
func TestMadeOfWrongN(t *testing.T) {
	for _, n := range []int{1, 0, -1, -2, -16, 17, 18, 32, 258, 65538, math.MaxInt, math.MinInt} {
		if got, x := cdf.Flat(n); !zero(got) || x != api.ErrArg {
			t.Errorf("Flat(%d): %v, %d", n, got, x)
		}
		if got, x := cdf.Steep(n); !zero(got) || x != api.ErrArg {
			t.Errorf("Steep(%d): %v, %d", n, got, x)
		}
	}
}

// Tables that may be: of each n, with elements that are alike, and with each Count (P3.1).
func TestCheckWell(t *testing.T) {
	for n := 2; n <= 16; n++ {
		for _, x := range tables(t, n) {
			for count := 0; count <= 32; count++ {
				if got := cdf.Check(table(count, x.C...)); got != api.OK {
					t.Errorf("%v, Count %d: %d", x.C, count, got)
				}
			}
		}
	}
}

// Tables that may not be, alone and in each call that is handed one: whatever stands beside them (P3.1 to P3.4).
func TestTablesThatMayNotBe(t *testing.T) {
	for _, x := range wrong() {
		if got := cdf.Check(x); got != api.ErrArg {
			t.Errorf("Check(%v): %d", x, got)
		}
		for _, s := range append(outside(len(x.C)), 0, 1, 15, 16) {
			if lo, hi, got := cdf.Bounds(x, s); lo != 0 || hi != 0 || got != api.ErrArg {
				t.Errorf("Bounds(%v, %d): %d, %d, %d", x, s, lo, hi, got)
			}
			if y, got := cdf.Adapt(x, s); !zero(y) || got != api.ErrArg {
				t.Errorf("Adapt(%v, %d): %v, %d", x, s, y, got)
			}
		}
		for _, at := range []uint32{0, 1, 16384, 32767, 32768, math.MaxUint32} {
			if s, got := cdf.Find(x, at); s != 0 || got != api.ErrArg {
				t.Errorf("Find(%v, %d): %d, %d", x, at, s, got)
			}
		}
		well := table(0, 5, all)
		for _, l := range [][]api.Table{{x}, {x, x}, {x, well}, {well, x}, {well, x, well}, {well, well, x}} {
			if y, got := cdf.Average(l...); !zero(y) || got != api.ErrArg {
				t.Errorf("Average(%v): %v, %d", l, y, got)
			}
		}
	}
}

// Each answer is memory of its own, and stands for itself (P3.5).
func TestMadeIsNew(t *testing.T) {
	for n := 2; n <= 16; n++ {
		for name, make := range map[string]func(int) (api.Table, api.Errno){"Flat": cdf.Flat, "Steep": cdf.Steep} {
			one, _ := make(n)
			keep := slices.Clone(one.C)
			two, _ := make(n)
			spoil(one.C)
			three, _ := make(n)
			if !slices.Equal(two.C, keep) || !slices.Equal(three.C, keep) {
				t.Errorf("%s(%d): two answers share memory", name, n)
			}
		}
	}
}
