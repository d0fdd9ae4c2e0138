package syms_test

import (
	"bytes"
	"slices"
	"testing"

	"zoetrope/api"
	"zoetrope/rac"
	"zoetrope/syms"
)

// What was written is read, and behind each act both sets are the same (P4.6, W6).
func TestThereAndBack(t *testing.T) {
	d := draws(21)
	for i, s := range sets(t) {
		for _, adapt := range []bool{false, true} {
			acts := append(every(t), d.acts(t, 500)...)
			w := writer(t, s, adapt)
			var after []api.Set
			for _, a := range acts {
				code(t, w, a)
				after = append(after, set(t, w))
			}
			r := reader(t, written(t, w), s, adapt)
			for j, a := range acts {
				code(t, r, a)
				if got := set(t, r); !same(got, after[j]) {
					t.Fatalf("set %d, behind %d (%+v): the sets are not the same", i, j, a)
				}
				if !adapt && !same(after[j], s) {
					t.Fatalf("set %d, behind %d (%+v): it has changed without adapting", i, j, a)
				}
			}
			if r.Count() != w.Count() {
				t.Errorf("set %d: counts %d and %d", i, r.Count(), w.Count())
			}
		}
	}
}

// So it is behind every count of acts, and in a long row (P4.6, W6).
func TestThereAndBackOfEachLength(t *testing.T) {
	d := draws(22)
	acts := d.acts(t, 60)
	w := writer(t, syms.Default(), true)
	for n := range acts {
		code(t, w, acts[n])
		r := reader(t, written(t, w), syms.Default(), true)
		for _, a := range acts[:n+1] {
			code(t, r, a)
		}
		if !same(set(t, r), set(t, w)) {
			t.Fatalf("%d acts: the sets are not the same", n+1)
		}
	}
	long := d.acts(t, 20000)
	w = writer(t, syms.Default(), true)
	for _, a := range long {
		code(t, w, a)
	}
	r := reader(t, written(t, w), syms.Default(), true)
	for _, a := range long {
		code(t, r, a)
	}
	if !same(set(t, r), set(t, w)) || r.Count() != w.Count() {
		t.Error("behind a long row the sets are not the same")
	}
}

// One value again and again: its table learns as far as it can, and a value that has hardly anything left is coded, too (P4.6).
func TestThereAndBackOfLearntTables(t *testing.T) {
	for k, f := range forms(t) {
		var acts []act
		for range 400 {
			acts = append(acts, act{k, f.contexts - 1, 0, f.values - 1})
		}
		acts = append(acts, act{k, f.contexts - 1, 0, 0})
		for range 400 {
			acts = append(acts, act{k, f.contexts - 1, 0, 0})
		}
		acts = append(acts, act{k, f.contexts - 1, 0, f.values - 1})
		w := writer(t, syms.Default(), true)
		for _, a := range acts {
			code(t, w, a)
		}
		r := reader(t, written(t, w), syms.Default(), true)
		for _, a := range acts {
			code(t, r, a)
		}
		if x := set(t, r).T[k][f.contexts-1]; x.Count != 32 || !same(set(t, r), set(t, w)) {
			t.Errorf("kind %d: %v", k, x)
		}
		if n := len(written(t, w)); n > 260 {
			t.Errorf("kind %d: %d bytes of 802 symbols: nothing was learnt", k, n)
		}
	}
}

// samples are bytes of all sorts, none of which a writer need have written.
func samples() [][]byte {
	l := [][]byte{
		nil, {}, {0}, {1}, {255}, {0, 0, 0, 0, 0, 0}, {255, 255, 255, 255}, {255, 255, 255, 254}, {128}, {127, 255, 255, 255, 255},
		slices.Repeat([]byte{255}, 200), slices.Repeat([]byte{0, 255}, 100), slices.Repeat([]byte{128, 0, 0, 0, 0}, 30),
	}
	d := draws(31)
	for n := range 40 {
		l = append(l, d.bytes(n*n/8))
	}
	return l
}

// Of any bytes, and behind their end, a reader reads what the calls below it tell: some value that the kind has (P4.3, P4.6).
func TestReaderOfAnyBytes(t *testing.T) {
	for i, b := range samples() {
		d := draws(i)
		for j, s := range sets(t) {
			adapt := (i+j)%2 == 0
			r, m := reader(t, b, s, adapt), model{in: rac.Read(b), set: twin(s), adapt: adapt}
			count := 0
			for _, a := range append(d.acts(t, 300), every(t)...) {
				a.v = m.code(t, a)
				code(t, r, a)
				count += a.weight()
				if a.kind != number && (a.v < 0 || a.v >= forms(t)[a.kind].values) || a.kind == number && (a.v < 0 || a.v >= 1<<a.n) {
					t.Fatalf("%x: %+v", b, a)
				}
			}
			got := set(t, r)
			if !same(got, m.set) || syms.Check(got) != api.OK || r.Count() != count {
				t.Fatalf("%x: another set, or another count: %d", b, r.Count())
			}
			if !adapt && !same(got, s) {
				t.Fatalf("%x: a set has changed without adapting", b)
			}
		}
	}
}

// Bytes that end too early are read on as if there were noughts behind them (P4.6).
func TestReaderOfTooFewBytes(t *testing.T) {
	d := draws(33)
	acts := d.acts(t, 200)
	w := writer(t, syms.Default(), true)
	for _, a := range acts {
		code(t, w, a)
	}
	b := written(t, w)
	for n := 0; n < len(b); n += 1 + n/9 {
		short, long := reader(t, b[:n], syms.Default(), true), reader(t, append(bytes.Clone(b[:n]), make([]byte, 400)...), syms.Default(), true)
		for _, a := range acts {
			v, e := do(short, a, 0)
			u, x := do(long, a, 0)
			if v != u || e != api.OK || x != api.OK {
				t.Fatalf("%d bytes: %+v: %d, %d and %d, %d", n, a, v, e, u, x)
			}
		}
		if !same(set(t, short), set(t, long)) {
			t.Fatalf("%d bytes: the sets are not the same", n)
		}
	}
}

// What a reader reads of any bytes, a writer can write, and it is read again (P4.6, W6).
func TestReadWrittenRead(t *testing.T) {
	for i, b := range samples() {
		d := draws(i + 50)
		acts := d.acts(t, 150)
		r, w := reader(t, b, syms.Default(), true), writer(t, syms.Default(), true)
		for j := range acts {
			acts[j].v, _ = do(r, acts[j], 0)
			code(t, w, acts[j])
		}
		if !same(set(t, r), set(t, w)) {
			t.Fatalf("%x: the sets are not the same", b)
		}
		again := reader(t, written(t, w), syms.Default(), true)
		for _, a := range acts {
			code(t, again, a)
		}
	}
}
