package syms_test

import (
	"math"
	"slices"
	"testing"

	"zoetrope/api"
	"zoetrope/cdf"
	"zoetrope/syms"
)

// The chapter's row of shapes (P4.1).
func TestShapeExamples(t *testing.T) {
	for _, x := range []struct {
		kind, contexts, values int
		e                      api.Errno
	}{
		{api.SymPart, 8, 10, 0}, {api.SymDcSign, 6, 2, 0}, {32, 0, 0, 41}, {-1, 0, 0, 41},
	} {
		if c, v, e := syms.Shape(x.kind); c != x.contexts || v != x.values || e != x.e {
			t.Errorf("Shape(%d): %d, %d, %d", x.kind, c, v, e)
		}
	}
}

// Every kind has what the document's table says, and there is no other kind (P4.1).
func TestShapeOfEveryKind(t *testing.T) {
	l := forms(t)
	if len(l) != api.Syms {
		t.Fatalf("%d kinds", len(l))
	}
	for k, f := range l {
		if c, v, e := syms.Shape(k); c != f.contexts || v != f.values || e != api.OK {
			t.Errorf("Shape(%d): %d, %d, %d, want %+v", k, c, v, e, f)
		}
	}
	for _, k := range wild() {
		if c, v, e := syms.Shape(k); c != 0 || v != 0 || e != api.ErrKind {
			t.Errorf("Shape(%d): %d, %d, %d", k, c, v, e)
		}
	}
}

// Kinds by name: one of each row of the document's table where a name could be taken for its neighbour's (P4.1).
func TestShapeByName(t *testing.T) {
	for _, x := range [][3]int{
		{api.SymPart16, 4, 8}, {api.SymYMode, 4, 13}, {api.SymDelta, 8, 7}, {api.SymUVMode, 1, 13}, {api.SymUVCfl, 1, 14}, {api.SymCflMag, 2, 16},
		{api.SymTx8, 1, 2}, {api.SymTx, 3, 3}, {api.SymTxType, 3, 9}, {api.SymTxType32, 1, 2}, {api.SymMvMode, 3, 4}, {api.SymMvClass, 2, 11},
		{api.SymEob4, 2, 5}, {api.SymEob8, 2, 7}, {api.SymEob16, 2, 9}, {api.SymEob32, 2, 11}, {api.SymLast, 2, 3}, {api.SymBase, 10, 4}, {api.SymMore, 14, 4}, {api.SymRest, 3, 2},
	} {
		if c, v, e := syms.Shape(x[0]); c != x[1] || v != x[2] || e != api.OK {
			t.Errorf("Shape(%d): %d, %d, %d", x[0], c, v, e)
		}
	}
}

// Each table of the first set is flat or steep, as the document's table says (P4.1).
func TestDefault(t *testing.T) {
	s := syms.Default()
	l := forms(t)
	if len(s.T) != len(l) {
		t.Fatalf("%d lists", len(s.T))
	}
	for k, f := range l {
		want, _ := cdf.Flat(f.values)
		if f.steep {
			want, _ = cdf.Steep(f.values)
		}
		if len(s.T[k]) != f.contexts {
			t.Fatalf("kind %d has %d tables", k, len(s.T[k]))
		}
		for c, x := range s.T[k] {
			if !sameTable(x, want) {
				t.Errorf("kind %d, context %d: got %v, want %v", k, c, x, want)
			}
		}
	}
	if x := s.T[api.SymLast][1]; !slices.Equal(x.C, []uint16{16384, 24576, 32768}) || x.Count != 0 {
		t.Errorf("SymLast: %v", x)
	}
	if x := s.T[api.SymRef][2]; !slices.Equal(x.C, []uint16{10922, 21845, 32768}) || x.Count != 0 {
		t.Errorf("SymRef: %v", x)
	}
}

// The first set is new memory each time, and no two of its lists share any (P4.5).
func TestDefaultIsNew(t *testing.T) {
	one := syms.Default()
	keep := twin(one)
	spoil(one)
	two := syms.Default()
	if !same(two, keep) {
		t.Fatal("Default answers what was changed outside")
	}
	apart(t, two)
}

// wrongSets are sets that may not be, each with one fault.
func wrongSets(t *testing.T) map[string]api.Set {
	t.Helper()
	m := map[string]api.Set{"none": {}, "an empty list": {T: [][]api.Table{}}, "empty lists": {T: make([][]api.Table, 32)}}
	put := func(name string, change func(s *api.Set)) {
		s := syms.Default()
		change(&s)
		m[name] = s
	}
	put("too few lists", func(s *api.Set) { s.T = s.T[:31] })
	put("the first list only", func(s *api.Set) { s.T = s.T[:1] })
	put("the first list missing", func(s *api.Set) { s.T = s.T[1:] })
	put("too many lists", func(s *api.Set) { s.T = append(s.T, s.T[31]) })
	put("an empty list more", func(s *api.Set) { s.T = append(s.T, nil) })
	put("lists of two kinds changed over", func(s *api.Set) { s.T[0], s.T[1] = s.T[1], s.T[0] })
	for _, k := range []int{0, 2, 9, 10, 17, 30, 31} {
		n := " of kind " + string(rune('A'+k))
		last := len(syms.Default().T[k]) - 1
		put("no tables"+n, func(s *api.Set) { s.T[k] = nil })
		put("too few tables"+n, func(s *api.Set) { s.T[k] = s.T[k][:last] })
		put("too many tables"+n, func(s *api.Set) { s.T[k] = append(s.T[k], s.T[k][0]) })
		for _, c := range []int{0, last / 2, last} {
			at := n + ", context " + string(rune('a'+c))
			values := len(syms.Default().T[k][0].C)
			put("a table without values"+at, func(s *api.Set) { s.T[k][c].C = nil })
			put("a value too few"+at, func(s *api.Set) { s.T[k][c], _ = cdf.Flat(values - 1) })
			put("a value too many"+at, func(s *api.Set) { s.T[k][c], _ = cdf.Flat(values + 1) })
			put("a value too many, which makes no table"+at, func(s *api.Set) { s.T[k][c].C = append(s.T[k][c].C, 32768) })
			put("the last one is less"+at, func(s *api.Set) { s.T[k][c].C[values-1] = 32767 })
			put("the last one is more"+at, func(s *api.Set) { s.T[k][c].C[values-1] = 32769 })
			put("one is above the last"+at, func(s *api.Set) { s.T[k][c].C[0] = 32769 })
			put("Count is below 0"+at, func(s *api.Set) { s.T[k][c].Count = -1 })
			put("Count is above 32"+at, func(s *api.Set) { s.T[k][c].Count = 33 })
			put("Count is far off"+at, func(s *api.Set) { s.T[k][c].Count = math.MinInt })
		}
	}
	return m
}

// Check tells of each fault, and of none where there is none (P4.1).
func TestCheck(t *testing.T) {
	for i, s := range sets(t) {
		if e := syms.Check(s); e != api.OK {
			t.Errorf("set %d: %d", i, e)
		}
		if e := syms.Check(roomy(s)); e != api.OK {
			t.Errorf("set %d with spare room: %d", i, e)
		}
	}
	for name, s := range wrongSets(t) {
		if e := syms.Check(s); e != api.ErrArg {
			t.Errorf("%s: %d", name, e)
		}
	}
	for k, f := range forms(t) { // each table counts
		for c := range f.contexts {
			s := syms.Default()
			s.T[k][c].Count = 32
			if e := syms.Check(s); e != api.OK {
				t.Errorf("kind %d, context %d, Count 32: %d", k, c, e)
			}
			s.T[k][c].Count = 33
			if e := syms.Check(s); e != api.ErrArg {
				t.Errorf("kind %d, context %d, Count 33: %d", k, c, e)
			}
		}
	}
}

// What is checked is only read (P4.5).
func TestCheckReads(t *testing.T) {
	for _, s := range sets(t) {
		s = roomy(s)
		keep := deep(s)
		syms.Check(s)
		if deep(s) != keep {
			t.Error("the set has changed")
		}
	}
}

// A copy is the same set, whether it may be or not (P4.1).
func TestCopy(t *testing.T) {
	for i, s := range sets(t) {
		if y := syms.Copy(s); !same(y, s) {
			t.Errorf("set %d: %v", i, y)
		}
	}
	for name, s := range wrongSets(t) {
		if y := syms.Copy(s); !same(y, s) {
			t.Errorf("%s: %v", name, y)
		}
	}
	odd := api.Set{T: [][]api.Table{{{C: []uint16{3, 2, 65535}, Count: math.MaxInt}, {}}, nil, {}, {{Count: -5}}}}
	if y := syms.Copy(odd); !same(y, odd) {
		t.Errorf("odd: %v", y)
	}
	long := api.Set{T: make([][]api.Table, 1000)}
	long.T[999] = []api.Table{{C: make([]uint16, 5000), Count: 1}}
	if y := syms.Copy(long); !same(y, long) {
		t.Error("a long one is copied otherwise")
	}
}

// What is copied is only read, and the copy is memory of its own, in all its lists (P4.5).
func TestCopyIsNew(t *testing.T) {
	for i, s := range sets(t) {
		s = roomy(s)
		keep, before := twin(s), deep(s)
		y := syms.Copy(s)
		z := syms.Copy(s)
		spoil(y)
		if deep(s) != before {
			t.Fatalf("set %d has changed with its copy", i)
		}
		spoil(s)
		if !same(z, keep) {
			t.Fatalf("set %d: a copy has changed with it", i)
		}
		apart(t, z)
	}
	// Tables that share memory when they are handed in do not in the copy.
	x, _ := cdf.Flat(2)
	l := []api.Table{x, x}
	apart(t, syms.Copy(api.Set{T: [][]api.Table{l, l, {x}}}))
}

// The chapter's row of averages (P4.1).
func TestAverageExamples(t *testing.T) {
	for _, l := range [][]api.Set{nil, {}} {
		if s, e := syms.Average(l...); !zero(s) || e != api.ErrArg {
			t.Errorf("of none: %v, %d", s, e)
		}
	}
	if s, e := syms.Average(syms.Default(), syms.Default()); !same(s, syms.Default()) || e != api.OK {
		t.Errorf("of two that are alike: %v, %d", s, e)
	}
}

// Averages of one, of many and of very many sets, table by table (P4.1).
func TestAverageOfMany(t *testing.T) {
	have := sets(t)
	d := draws(5)
	for range 12 {
		have = append(have, d.set(t))
	}
	for n := 1; n <= len(have); n++ {
		l := slices.Clone(have[len(have)-n:])
		y, e := syms.Average(l...)
		if e != api.OK || syms.Check(y) != api.OK {
			t.Fatalf("of %d: %d", n, e)
		}
		for k, f := range forms(t) {
			for c := range f.contexts {
				for i, got := range y.T[k][c].C {
					sum := n / 2
					for _, s := range l {
						sum += int(s.T[k][c].C[i])
					}
					if int(got) != sum/n || y.T[k][c].Count != 0 {
						t.Fatalf("of %d: kind %d, context %d: %v", n, k, c, y.T[k][c])
					}
				}
			}
		}
		slices.Reverse(l)
		if z, e := syms.Average(l...); !same(y, z) || e != api.OK {
			t.Fatalf("of %d, in another order: %d", n, e)
		}
	}
	many := slices.Repeat(have[1:2], 3000)
	y, e := syms.Average(many...)
	one, _ := syms.Average(have[1])
	if e != api.OK || !same(y, one) {
		t.Errorf("of 3000: %d", e)
	}
}

// One that may not be is told, wherever it stands (P4.1).
func TestAverageWrong(t *testing.T) {
	d := draws(8)
	good := d.set(t)
	for name, s := range wrongSets(t) {
		for _, l := range [][]api.Set{{s}, {s, good}, {good, s}, {good, s, good}, {good, good, s}, {s, s}} {
			if y, e := syms.Average(l...); !zero(y) || e != api.ErrArg {
				t.Errorf("%s, %d sets: %v, %d", name, len(l), y, e)
			}
		}
	}
}

// Sets that are averaged are only read, the list of them too, and what comes of them is new memory, even of one alone (P4.5).
func TestAverageIsNew(t *testing.T) {
	for n := 1; n <= 4; n++ {
		var l []api.Set
		var before []string
		for _, s := range sets(t)[:n] {
			l = append(l, roomy(s))
			before = append(before, deep(l[len(l)-1]))
		}
		l = append(l, syms.Default())[:n]
		y, _ := syms.Average(l...)
		keep := twin(y)
		z, _ := syms.Average(l...)
		spoil(y)
		for i := range l {
			if deep(l[i]) != before[i] {
				t.Fatalf("of %d: set %d has changed", n, i)
			}
			spoil(l[i])
		}
		if !same(z, keep) {
			t.Fatalf("of %d: the average shares memory with what it is made of", n)
		}
		apart(t, z)
	}
	x, _ := cdf.Flat(2)
	s := syms.Default()
	for i := range s.T[api.SymZero] {
		s.T[api.SymZero][i] = x
	}
	y, _ := syms.Average(s)
	apart(t, y)
}
