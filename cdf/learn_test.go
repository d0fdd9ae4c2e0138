package cdf_test

import (
	"slices"
	"testing"

	"zoetrope/api"
	"zoetrope/cdf"
)

func adapt(t *testing.T, x api.Table, s int, want api.Table) {
	t.Helper()
	if y, got := cdf.Adapt(x, s); !same(y, want) || got != api.OK {
		t.Errorf("Adapt(%v, %d): got %v, %d, want %v", x, s, y, got, want)
	}
}

// The chapter's rows of a table that learns (P3.3).
func TestAdaptExamples(t *testing.T) {
	flat, _ := cdf.Flat(2)
	adapt(t, flat, 0, table(1, 17408, 32768))
	adapt(t, flat, 1, table(1, 15360, 32768))
	if y, x := cdf.Adapt(flat, 2); !zero(y) || x != 2 {
		t.Errorf("Adapt(Flat(2), 2): %v, %d", y, x)
	}
	adapt(t, table(16, flat.C...), 0, table(17, 16896, 32768))
	adapt(t, table(32, flat.C...), 0, table(32, 16640, 32768))
}

// Steps worked out by hand: the rate on both sides of each Count and of each n where it changes, and what is too little to move (P3.3).
func TestAdaptByHand(t *testing.T) {
	for _, c := range []struct {
		x    api.Table
		s    int
		want api.Table
	}{
		{table(15, 16384, all), 0, table(16, 17408, all)},
		{table(31, 16384, all), 0, table(32, 16896, all)},
		{table(31, 16384, all), 1, table(32, 15872, all)},
		{table(32, 16384, all), 1, table(32, 16128, all)},
		{table(0, 10922, 21845, all), 1, table(1, 10240, 22527, all)},             // rate 4
		{table(0, 8192, 16384, 24576, all), 2, table(1, 7936, 15872, 24832, all)}, // rate 5
		{table(0, 15, 32753, all), 1, table(1, 15, 32753, all)},
		{table(0, 16, 32752, all), 1, table(1, 15, 32753, all)},
		{table(0, 0, all, all), 0, table(1, 2048, all, all)},
		{table(0, 0, all, all), 2, table(1, 0, 30720, all)},
		{split(16, 15, 0, 0), 0, table(1, append(slices.Repeat([]uint16{1024}, 15), all)...)},
		{split(16, 0, all, all), 15, table(1, append(slices.Repeat([]uint16{31744}, 15), all)...)},
	} {
		adapt(t, c.x, c.s, c.want)
	}
}

// Every value of tables of all sorts, with every Count: what is learnt, that it may be, and whom it serves (P3.3, P3.7).
func TestAdaptEveryValue(t *testing.T) {
	for n := 2; n <= 16; n++ {
		for _, x := range tables(t, n) {
			for count := 0; count <= 32; count++ {
				for s := range n {
					before := table(count, x.C...)
					y, got := cdf.Adapt(before, s)
					if want := learnt(before, s); !same(y, want) || got != api.OK {
						t.Fatalf("Adapt(%v, %d): got %v, %d, want %v", before, s, y, got, want)
					}
					serves(t, before, y, s)
				}
			}
		}
	}
}

// serves tells that a table may be, and that what it has learnt has taken nothing from that value, and given nothing to another one.
func serves(t *testing.T, before, behind api.Table, s int) {
	t.Helper()
	if x := cdf.Check(behind); x != api.OK {
		t.Fatalf("%v, behind %d: %d", behind, s, x)
	}
	for i := range before.C {
		if i != s && own(behind, i) > own(before, i) {
			t.Fatalf("%v, behind %d: %v has more of %d", before, s, behind, i)
		}
	}
	lo, hi, _ := cdf.Bounds(before, s)
	low, high, _ := cdf.Bounds(behind, s)
	if high-low < hi-lo {
		t.Fatalf("%v, behind %d: %v has it narrower", before, s, behind)
	}
}

// own is what a value has of C.
func own(x api.Table, i int) int {
	if i == 0 {
		return int(x.C[0])
	}
	return int(x.C[i]) - int(x.C[i-1])
}

// A table that learns on and on: Count comes to 32 and stays there, and the table may be behind each value (P3.3, P3.7).
func TestAdaptOnAndOn(t *testing.T) {
	for n := 2; n <= 16; n++ {
		d := draws(n + 70)
		for _, choose := range []func() int{
			func() int { return 0 },
			func() int { return n - 1 },
			func() int { return n / 2 },
			func() int { return d.below(n) },
			func() int { return min(d.below(n), d.below(n)) },
		} {
			x, _ := cdf.Flat(n)
			for i := range 1500 {
				s := choose()
				y, got := cdf.Adapt(x, s)
				if !same(y, learnt(x, s)) || y.Count != min(i+1, 32) || got != api.OK {
					t.Fatalf("%v, behind %d: %v, %d", x, s, y, got)
				}
				serves(t, x, y, s)
				x = y
			}
		}
	}
}

// ErrArg of values that are outside (P3.3).
func TestAdaptOutside(t *testing.T) {
	for n := 2; n <= 16; n++ {
		for _, x := range tables(t, n) {
			for _, s := range outside(n) {
				if y, got := cdf.Adapt(x, s); !zero(y) || got != api.ErrArg {
					t.Errorf("Adapt(%v, %d): %v, %d", x, s, y, got)
				}
			}
		}
	}
}

// A table that learns is only read, and what comes of it is memory of its own, even where nothing has moved (P3.5).
func TestAdaptIsNew(t *testing.T) {
	for n := 2; n <= 16; n++ {
		for _, keep := range tables(t, n) {
			for s := range n {
				x, room := roomy(keep)
				before := slices.Clone(room)
				y, _ := cdf.Adapt(x, s)
				if !slices.Equal(room, before) {
					t.Fatalf("Adapt(%v, %d) has changed it: %v", keep, s, room)
				}
				spoil(y.C)
				if !slices.Equal(room, before) {
					t.Fatalf("Adapt(%v, %d) shares its memory", keep, s)
				}
				y, _ = cdf.Adapt(x, s)
				spoil(room)
				if !same(y, learnt(keep, s)) {
					t.Fatalf("Adapt(%v, %d) shares its memory", keep, s)
				}
			}
		}
	}
}
