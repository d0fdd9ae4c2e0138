package syms_test

import (
	"bytes"
	"math"
	"slices"
	"testing"

	"zoetrope/api"
	"zoetrope/rac"
	"zoetrope/syms"
)

// The chapter's rows of coders (P4.3, P4.4).
func TestCoderExamples(t *testing.T) {
	answer := func(v int, e api.Errno) [2]int { return [2]int{v, int(e)} }
	want := func(what string, got [2]int, v, e int) {
		t.Helper()
		if got != [2]int{v, e} {
			t.Errorf("%s: got %v, want %d, %d", what, got, v, e)
		}
	}
	w := writer(t, syms.Default(), true)
	want("Symbol(SymSkip, 0, 1)", answer(w.Symbol(api.SymSkip, 0, 1)), 1, 0)
	want("Symbol(SymSkip, 3, 0)", answer(w.Symbol(api.SymSkip, 3, 0)), 0, 2)
	want("Symbol(SymSkip, 0, 2)", answer(w.Symbol(api.SymSkip, 0, 2)), 0, 2)
	want("Bits(3, 5)", answer(w.Bits(3, 5)), 5, 0)
	want("Bits(3, 8)", answer(w.Bits(3, 8)), 0, 2)
	if n := w.Count(); n != 4 || !w.Writes() {
		t.Errorf("Count: %d", n)
	}
	r := reader(t, written(t, w), syms.Default(), true)
	want("read: Symbol(SymSkip, 0, 0)", answer(r.Symbol(api.SymSkip, 0, 0)), 1, 0)
	want("read: Bits(3, 0)", answer(r.Bits(3, 0)), 5, 0)
	if b, e := r.Bytes(); len(b) != 0 || e != 40 {
		t.Errorf("read: Bytes: %x, %d", b, e)
	}
	if r.Writes() {
		t.Error("a reader writes")
	}
}

// Bytes by hand: the first halves and the last ones of 32768 (P4.3, P4.4).
func TestWrittenByHand(t *testing.T) {
	upper := []byte{0x7f, 0xff, 0xc0}
	for _, x := range []struct {
		a act
		b []byte
	}{
		{act{number, 0, 0, 0}, nil}, {act{number, 0, 1, 0}, nil}, {act{number, 0, 1, 1}, upper}, {act{number, 0, 2, 2}, upper}, {act{number, 0, 30, 0}, nil}, {act{number, 0, 30, 1 << 29}, upper},
		{act{api.SymSkip, 0, 0, 0}, nil}, {act{api.SymSkip, 0, 0, 1}, upper}, {act{api.SymRest, 2, 0, 1}, upper}, {act{api.SymBase, 9, 0, 0}, nil}, {act{api.SymPart, 7, 0, 5}, upper},
	} {
		w := writer(t, syms.Default(), false)
		code(t, w, x.a)
		if b := written(t, w); !bytes.Equal(b, x.b) {
			t.Errorf("%+v: got %x, want %x", x.a, b, x.b)
		}
	}
	// A steep table of 4: value 1 has from 16384 - 8 + 4 up to 24576 - 12 + 8.
	w, e := writer(t, syms.Default(), false), rac.New()
	code(t, w, act{api.SymMore, 13, 0, 1})
	e.Put(16380, 24572)
	if b := written(t, w); !bytes.Equal(b, e.Bytes()) {
		t.Errorf("SymMore: got %x, want %x", b, e.Bytes())
	}
}

// A new coder has coded nothing, and its set is the one handed in, whatever the bytes (P4.2, P4.4).
func TestNewCoder(t *testing.T) {
	for i, s := range sets(t) {
		for _, adapt := range []bool{false, true} {
			w := writer(t, s, adapt)
			if !w.Writes() || w.Count() != 0 || !same(set(t, w), s) || len(written(t, w)) != 0 {
				t.Errorf("set %d: a writer: %v, %d", i, w.Writes(), w.Count())
			}
			for _, b := range [][]byte{nil, {}, {0}, {255, 255, 255, 255, 255}} {
				r := reader(t, b, s, adapt)
				if r.Writes() || r.Count() != 0 || !same(set(t, r), s) {
					t.Errorf("set %d: a reader: %v, %d", i, r.Writes(), r.Count())
				}
			}
		}
	}
}

// A set that may not be makes no coder (P4.2).
func TestNewCoderWrong(t *testing.T) {
	for name, s := range wrongSets(t) {
		for _, adapt := range []bool{false, true} {
			if c, e := syms.Writer(s, adapt); c != nil || e != api.ErrArg {
				t.Errorf("Writer, %s: %v, %d", name, c, e)
			}
			for _, b := range [][]byte{nil, {1, 2, 3}} {
				if c, e := syms.Reader(b, s, adapt); c != nil || e != api.ErrArg {
					t.Errorf("Reader, %s: %v, %d", name, c, e)
				}
			}
		}
	}
}

// A coder that is none answers ErrNil, whatever it is asked (P4.3, P4.4).
func TestCoderNone(t *testing.T) {
	var zeroOne syms.Coder
	for _, c := range []*syms.Coder{nil, &zeroOne, new(syms.Coder)} {
		for _, n := range append(wild(), 0, 1, 2, 30, 31) {
			for _, m := range append(wild(), 0, 1) {
				if v, e := c.Symbol(n, m, m); v != 0 || e != api.ErrNil {
					t.Fatalf("Symbol(%d, %d, %d): %d, %d", n, m, m, v, e)
				}
				if v, e := c.Bits(n, m); v != 0 || e != api.ErrNil {
					t.Fatalf("Bits(%d, %d): %d, %d", n, m, v, e)
				}
			}
		}
		if s, e := c.Set(); !zero(s) || e != api.ErrNil {
			t.Errorf("Set: %v, %d", s, e)
		}
		if b, e := c.Bytes(); len(b) != 0 || e != api.ErrNil {
			t.Errorf("Bytes: %x, %d", b, e)
		}
		if c.Writes() || c.Count() != 0 {
			t.Errorf("Writes: %v, Count: %d", c.Writes(), c.Count())
		}
	}
}

// fault is a call that must fail.
type fault struct {
	a    act
	side bool // only where it writes
	e    api.Errno
}

// faults are calls that must fail, by the chapter's order: kinds, then contexts, then values.
func faults(t *testing.T) []fault {
	t.Helper()
	var l []fault
	for _, k := range wild() {
		for _, x := range append(wild(), 0, 1) {
			l = append(l, fault{act{k, x, 0, x}, false, api.ErrKind}, fault{act{k, 0, 0, x}, false, api.ErrKind}, fault{act{k, x, 0, 0}, false, api.ErrKind})
		}
	}
	for k, f := range forms(t) {
		for _, x := range append([]int{f.contexts, f.contexts + 1}, wild()...) {
			l = append(l, fault{act{k, x, 0, 0}, false, api.ErrArg}, fault{act{k, x, 0, f.values - 1}, false, api.ErrArg}, fault{act{k, x, 0, x}, false, api.ErrArg})
		}
		for _, x := range append([]int{f.values, f.values + 1}, wild()...) {
			l = append(l, fault{act{k, 0, 0, x}, true, api.ErrArg}, fault{act{k, f.contexts - 1, 0, x}, true, api.ErrArg})
		}
	}
	for _, n := range append([]int{31, 32, 62, 63}, wild()...) {
		for _, v := range append(wild(), 0, 1) {
			l = append(l, fault{act{number, 0, n, v}, false, api.ErrArg})
		}
	}
	for n := range 31 {
		for _, v := range []int{1 << n, 1<<n + 1, 1 << (n + 1), -1, -1 << n, 1 << 31, 1 << 32, 1 << 62, math.MaxInt, math.MinInt} {
			l = append(l, fault{act{number, 0, n, v}, true, api.ErrArg})
		}
	}
	return l
}

// Wrong calls of a writer are told, and change nothing (P4.3).
func TestWriterFaults(t *testing.T) {
	d := draws(3)
	for _, s := range sets(t)[:2] {
		w, quiet := writer(t, s, true), writer(t, s, true)
		l := d.acts(t, 40)
		for _, a := range l[:20] {
			code(t, w, a)
			code(t, quiet, a)
		}
		for _, f := range faults(t) {
			if v, e := do(w, f.a, f.a.v); v != 0 || e != f.e {
				t.Fatalf("%+v: %d, %d", f.a, v, e)
			}
		}
		unchanged(t, w, quiet)
		if !bytes.Equal(written(t, w), written(t, quiet)) {
			t.Error("wrong calls have changed the bytes")
		}
		for _, a := range l[20:] {
			code(t, w, a)
			code(t, quiet, a)
		}
		if !bytes.Equal(written(t, w), written(t, quiet)) {
			t.Error("wrong calls have changed what is written behind them")
		}
	}
}

// Wrong calls of a reader are told, and change nothing; a value that is handed in is none of them (P4.3).
func TestReaderFaults(t *testing.T) {
	d := draws(4)
	for _, s := range sets(t)[:2] {
		b := d.bytes(60)
		r, quiet := reader(t, b, s, true), reader(t, b, s, true)
		for _, f := range faults(t) {
			if f.side {
				continue
			}
			if v, e := do(r, f.a, f.a.v); v != 0 || e != f.e {
				t.Fatalf("%+v: %d, %d", f.a, v, e)
			}
		}
		if b, e := r.Bytes(); len(b) != 0 || e != api.ErrSide {
			t.Fatalf("Bytes: %x, %d", b, e)
		}
		unchanged(t, r, quiet)
		for _, f := range faults(t) {
			if !f.side {
				continue
			}
			v, e := do(r, f.a, f.a.v)
			u, x := do(quiet, f.a, 0)
			if v != u || e != api.OK || x != api.OK {
				t.Fatalf("%+v: got %d, %d, want %d", f.a, v, e, u)
			}
		}
		unchanged(t, r, quiet)
	}
}

// unchanged tells that a coder stands where another one does, as far as both sides tell.
func unchanged(t *testing.T, c, quiet *syms.Coder) {
	t.Helper()
	if c.Count() != quiet.Count() || c.Writes() != quiet.Writes() || !same(set(t, c), set(t, quiet)) {
		t.Fatal("a coder has changed")
	}
}

// What a writer writes is what the calls below it make of the same acts, behind every one of them (P4.3, P4.4).
func TestWriterAgainstModel(t *testing.T) {
	d := draws(12)
	for i, s := range sets(t) {
		for _, adapt := range []bool{false, true} {
			w, m := writer(t, s, adapt), model{out: rac.New(), set: twin(s), adapt: adapt}
			count := 0
			for j, a := range append(every(t), d.acts(t, 600)...) {
				code(t, w, a)
				m.code(t, a)
				count += a.weight()
				if w.Count() != count {
					t.Fatalf("set %d, behind %d: Count: got %d, want %d", i, j, w.Count(), count)
				}
				if !bytes.Equal(written(t, w), m.out.Bytes()) {
					t.Fatalf("set %d, behind %d (%+v): other bytes", i, j, a)
				}
				if j%7 == 0 && !same(set(t, w), m.set) {
					t.Fatalf("set %d, behind %d (%+v): another set", i, j, a)
				}
			}
			if !same(set(t, w), m.set) || w.Count() != count {
				t.Fatalf("set %d: another set", i)
			}
		}
	}
}

// Only the table that was asked for learns, and only if the coder adapts (P4.3, P4.6).
func TestOneTableLearns(t *testing.T) {
	for _, a := range every(t) {
		for _, adapt := range []bool{false, true} {
			w := writer(t, syms.Default(), adapt)
			code(t, w, a)
			got := set(t, w)
			changed := 0
			for k, l := range syms.Default().T {
				for c, x := range l {
					if sameTable(got.T[k][c], x) {
						continue
					}
					changed++
					if k != a.kind || c != a.context || got.T[k][c].Count != 1 {
						t.Errorf("%+v: kind %d, context %d has become %v", a, k, c, got.T[k][c])
					}
				}
			}
			want := 0
			if adapt && a.kind != number {
				want = 1
			}
			if changed != want {
				t.Errorf("%+v, adapt %v: %d tables have changed", a, adapt, changed)
			}
		}
	}
}

// Bytes can be asked at any time, and leave the writer as it is (P4.4).
func TestBytesLeavesWriter(t *testing.T) {
	d := draws(6)
	w, quiet := writer(t, syms.Default(), true), writer(t, syms.Default(), true)
	for _, a := range d.acts(t, 300) {
		code(t, w, a)
		code(t, quiet, a)
		first := written(t, w)
		if !bytes.Equal(written(t, w), first) {
			t.Fatal("asked again, other bytes")
		}
	}
	if !bytes.Equal(written(t, w), written(t, quiet)) {
		t.Error("a writer that was asked writes otherwise")
	}
}

// A coder keeps nothing that is handed in, and changes nothing of it (P4.5).
func TestCoderCopies(t *testing.T) {
	d := draws(14)
	for _, s := range sets(t) {
		acts := d.acts(t, 100)
		plain := writer(t, s, true)
		for _, a := range acts {
			code(t, plain, a)
		}
		given := roomy(s)
		before := deep(given)
		w := writer(t, given, true)
		for _, a := range acts[:50] {
			code(t, w, a)
		}
		if deep(given) != before {
			t.Fatal("a writer has changed the set that was handed in")
		}
		spoil(given)
		for _, a := range acts[50:] {
			code(t, w, a)
		}
		if !bytes.Equal(written(t, w), written(t, plain)) || !same(set(t, w), set(t, plain)) {
			t.Fatal("a writer keeps the set that was handed in")
		}
		readCopies(t, roomy(s), written(t, plain), acts)
	}
}

// readCopies has a reader read what was written, while the set and the bytes that were handed in are spoilt.
func readCopies(t *testing.T, given api.Set, b []byte, acts []act) {
	t.Helper()
	room := append(slices.Clone(b), 1, 2, 3, 4, 5)
	keep := slices.Clone(room)
	before := deep(given)
	r := reader(t, room[:len(b)], given, true)
	for i, a := range acts {
		code(t, r, a)
		if i == len(acts)/2 {
			if !bytes.Equal(room, keep) || deep(given) != before {
				t.Fatal("a reader has changed what was handed in")
			}
			spoil(given)
			for j := range room {
				room[j] ^= 0x5a
			}
		}
	}
}

// What a coder answers is nobody else's (P4.5).
func TestCoderAnswersAreNew(t *testing.T) {
	d := draws(15)
	w := writer(t, syms.Default(), true)
	m := model{out: rac.New(), set: syms.Default(), adapt: true}
	var old []api.Set
	var olds []string
	for i, a := range d.acts(t, 200) {
		code(t, w, a)
		m.code(t, a)
		one, two := set(t, w), set(t, w)
		b, c := written(t, w), written(t, w)
		keep := slices.Clone(c)
		spoil(one)
		for j := range b {
			b[j] ^= 0x5a
		}
		if !same(two, m.set) || !same(set(t, w), m.set) {
			t.Fatalf("behind %d: a set that was answered is shared", i)
		}
		if !bytes.Equal(c, keep) || !bytes.Equal(written(t, w), m.out.Bytes()) {
			t.Fatalf("behind %d: bytes that were answered are shared", i)
		}
		old, olds = append(old, two), append(olds, deep(two))
	}
	for i := range old {
		if deep(old[i]) != olds[i] {
			t.Fatalf("the set behind %d has changed since", i)
		}
	}
	apart(t, set(t, w))
	r := reader(t, written(t, w), syms.Default(), true)
	s := set(t, r)
	spoil(s)
	if !same(set(t, r), syms.Default()) {
		t.Error("a reader's set is shared")
	}
}

// Two coders know nothing of each other (R2).
func TestCodersApart(t *testing.T) {
	d, o := draws(16), draws(17)
	acts, others := d.acts(t, 200), o.acts(t, 200)
	s := syms.Default()
	one, two, alone := writer(t, s, true), writer(t, s, true), writer(t, s, true)
	for i := range acts {
		code(t, one, acts[i])
		code(t, two, others[i])
	}
	for _, a := range acts {
		code(t, alone, a)
	}
	if !bytes.Equal(written(t, one), written(t, alone)) || !same(set(t, one), set(t, alone)) {
		t.Error("a coder hangs on another one")
	}
}
