package cdf_test

import (
	"slices"
	"testing"

	"zoetrope/api"
	"zoetrope/cdf"
)

func average(t *testing.T, want api.Table, l ...api.Table) {
	t.Helper()
	if y, got := cdf.Average(l...); !same(y, want) || got != api.OK {
		t.Errorf("Average(%v): got %v, %d, want %v", l, y, got, want)
	}
}

func averageWrong(t *testing.T, l ...api.Table) {
	t.Helper()
	if y, got := cdf.Average(l...); !zero(y) || got != api.ErrArg {
		t.Errorf("Average(%v): %v, %d", l, y, got)
	}
}

// The chapter's row of averages (P3.4).
func TestAverageExamples(t *testing.T) {
	two, _ := cdf.Flat(2)
	three, _ := cdf.Flat(3)
	average(t, table(0, 16896, 32768), two, table(9, 17408, 32768))
	averageWrong(t)
	averageWrong(t, []api.Table{}...)
	averageWrong(t, two, three)
}

// Averages by hand: what lies between is rounded to the nearer one, a half upwards (P3.4).
func TestAverageByHand(t *testing.T) {
	average(t, table(0, 2, all), table(3, 1, all), table(5, 2, all))
	average(t, table(0, 0, all), table(0, 0, all), table(0, 0, all), table(0, 1, all))
	average(t, table(0, 1, all), table(0, 0, all), table(0, 1, all), table(0, 1, all))
	average(t, table(0, 0, all), table(0, 0, all), table(0, 0, all), table(0, 0, all), table(0, 1, all))
	average(t, table(0, 1, all), table(0, 1, all), table(0, 0, all), table(0, 1, all), table(0, 0, all))
	average(t, table(0, 1, all), table(0, 3, all), table(0, 0, all), table(0, 0, all), table(0, 0, all), table(0, 0, all))
	average(t, table(0, 16384, all, all), table(0, 0, all, all), table(0, all, all, all))
	average(t, table(0, 16384, 16384, all), table(1, 0, 0, all), table(2, all, all, all))
}

// Of one and of many: the sum over their number, Count 0, within what they have, in whatever order (P3.4, P3.7, P3.8).
func TestAverageOfMany(t *testing.T) {
	for n := 2; n <= 16; n++ {
		l := tables(t, n)
		for k := 1; k <= len(l); k++ {
			for from := 0; from+k <= len(l); from += 3 {
				some := slices.Clone(l[from : from+k])
				y, got := cdf.Average(some...)
				if got != api.OK || y.Count != 0 || len(y.C) != n || cdf.Check(y) != api.OK {
					t.Fatalf("Average(%v): %v, %d", some, y, got)
				}
				between(t, y, some)
				slices.Reverse(some)
				average(t, y, some...)
				average(t, y, append(some[k/2:k:k], some[:k/2]...)...)
			}
		}
	}
}

// between tells that a table is the average of some, and lies between the least and the greatest of each element.
func between(t *testing.T, y api.Table, l []api.Table) {
	t.Helper()
	for i, c := range y.C {
		sum, least, most := len(l)/2, l[0].C[i], l[0].C[i]
		for _, x := range l {
			sum += int(x.C[i])
			least, most = min(least, x.C[i]), max(most, x.C[i])
		}
		if int(c) != sum/len(l) || c < least || c > most {
			t.Fatalf("Average(%v), %d: got %d, want %d from %d to %d", l, i, c, sum/len(l), least, most)
		}
	}
}

// Tables that are all alike have that average, whatever their Counts (P3.8).
func TestAverageOfAlike(t *testing.T) {
	for n := 2; n <= 16; n++ {
		for _, x := range tables(t, n) {
			want := table(0, x.C...)
			for k := 1; k <= 9; k++ {
				var l []api.Table
				for i := range k {
					l = append(l, table(counts()[(i+k)%9], x.C...))
				}
				average(t, want, l...)
			}
		}
	}
}

// So many tables that their sums need more than 32 bits (P3.4).
func TestAverageOfVeryMany(t *testing.T) {
	const many = 300001
	l := make([]api.Table, many)
	for i := range l {
		l[i] = table(1, 32767, 32768, 32768)
	}
	average(t, table(0, 32767, 32768, 32768), l...)
	for i := range many / 2 {
		l[i] = table(2, 0, 1, 32768)
	}
	// 150000 of 0 and 150001 of 32767; 150000 of 1 and 150001 of 32768.
	average(t, table(0, 16384, 16385, 32768), l...)
	l[many-1] = table(33, 0, 1, 32768)
	if y, got := cdf.Average(l...); !zero(y) || got != api.ErrArg {
		t.Errorf("the last one may not be: %v, %d", y, got)
	}
}

// ErrArg of a table with another n than the first one, wherever it stands (P3.4).
func TestAverageOfAnotherN(t *testing.T) {
	for n := 2; n <= 16; n++ {
		x, _ := cdf.Flat(n)
		for m := 2; m <= 16; m++ {
			if m == n {
				continue
			}
			y, _ := cdf.Steep(m)
			averageWrong(t, x, y)
			averageWrong(t, x, x, y)
			averageWrong(t, x, y, x)
			averageWrong(t, x, y, y, y)
		}
	}
}

// Tables that are averaged are only read, the list of them too, and what comes of them is memory of its own, even of one alone (P3.5).
func TestAverageIsNew(t *testing.T) {
	for n := 2; n <= 16; n++ {
		have := tables(t, n)
		for k := 1; k <= 5; k++ {
			var l, keep []api.Table
			var rooms, before [][]uint16
			for _, x := range have[:min(k, len(have))] {
				y, room := roomy(x)
				l, keep = append(l, y), append(keep, y)
				rooms, before = append(rooms, room), append(before, slices.Clone(room))
			}
			y, _ := cdf.Average(l...)
			want := slices.Clone(y.C)
			spoil(y.C)
			y, _ = cdf.Average(l...)
			for i := range l {
				if !slices.Equal(rooms[i], before[i]) || !same(l[i], keep[i]) || &l[i].C[0] != &keep[i].C[0] {
					t.Fatalf("%d of %d: %v has become %v", i, k, before[i], rooms[i])
				}
				spoil(rooms[i])
			}
			if !slices.Equal(y.C, want) {
				t.Fatalf("%d tables share memory with their average", k)
			}
		}
	}
}
