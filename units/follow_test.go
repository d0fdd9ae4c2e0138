package units_test

import (
	"bytes"
	"slices"
	"testing"

	"zoetrope/api"
	"zoetrope/units"
)

// Pieces that are put together come apart as they were (P19.5, W6).
func TestSplitOfJoin(t *testing.T) {
	d := draws(211)
	for range 3000 {
		l := d.pieces(d.below(15))
		b, e := units.Join(l...)
		if e != api.OK {
			t.Fatalf("Join(%v): %d", l, e)
		}
		whole(t, b, l...)
	}
	for _, x := range sizes() {
		l := []api.Obu{seq(d.body(x.n)...), unit(d.body(x.n)...), frame(d.body(x.n)...)}
		b, _ := units.Join(l...)
		whole(t, b, l...)
	}
	l := []api.Obu{frame(make([]byte, most)...), seq(1)}
	b, _ := units.Join(l...)
	whole(t, b, l...)
}

// rejoined asks of what Split tells of a stream that Join makes of it what stands ahead of the place (P19.5).
func rejoined(t *testing.T, b []byte) {
	t.Helper()
	l, at, _ := split(t, b)
	c, e := units.Join(l...)
	if e != api.OK || !bytes.Equal(c, b[:at]) {
		t.Fatalf("%x: %d, %x; want %x", b, e, c, b[:at])
	}
}

// What was read is put together as it stood, of whole streams and of ones that are cut anywhere or turned at one byte (P19.5, W6).
func TestJoinOfSplit(t *testing.T) {
	d := draws(212)
	for range 60 {
		b := stream(d.pieces(d.below(6))...)
		rejoined(t, b)
		for n := range b {
			rejoined(t, b[:n])
		}
		for at := range b {
			for _, c := range []byte{0, 16, 32, 48, 64, 127, 128, 129, 255, b[at] + 1, b[at] - 1, b[at] ^ 128} {
				turned := slices.Clone(b)
				turned[at] = c
				rejoined(t, turned)
			}
		}
	}
	for range 5000 {
		rejoined(t, d.body(d.below(60)))
	}
}

// What stands behind the first piece that can't be read makes no difference: neither to the pieces, nor to the place, nor to the error (P19.6).
func TestBehindTheFault(t *testing.T) {
	d := draws(213)
	anywhere, _ := faults()
	for range 300 {
		f := anywhere[d.below(len(anywhere))]
		l := d.pieces(d.below(6))
		b := append(stream(l...), f.b...)
		at := len(stream(l...))
		splitIs(t, b, at, f.e, l...)
		for range 10 {
			behind := d.body(d.below(40))
			if d.below(2) == 0 {
				behind = stream(d.pieces(d.below(5))...)
			}
			splitIs(t, slices.Concat(b, behind), at, f.e, l...)
		}
	}
}

// Of a stream that is cut anywhere there are the first pieces, as many as are whole (P19.6).
func TestCutAnywhere(t *testing.T) {
	d := draws(214)
	for range 150 {
		l := d.pieces(1 + d.below(8))
		b := stream(l...)
		ends := []int{0}
		for i := range l {
			ends = append(ends, len(stream(l[:i+1]...)))
		}
		many := 0
		for n := range len(b) + 1 {
			if many < len(l) && ends[many+1] == n {
				many++
			}
			e := api.ErrTrunc
			if ends[many] == n {
				e = api.OK
			}
			splitIs(t, b[:n], ends[many], e, l[:many]...)
		}
	}
}

// Streams put one behind the other have the pieces of both, if the first one has no error (P19.6).
func TestOneBehindTheOther(t *testing.T) {
	d := draws(215)
	for range 3000 {
		a, b := stream(d.pieces(d.below(5))...), stream(d.pieces(d.below(5))...)
		switch d.below(3) {
		case 0:
			b = b[:d.below(len(b)+1)]
		case 1:
			b = append(b, d.body(d.below(8))...)
		}
		l, at, e := split(t, a)
		m, place, f := split(t, b)
		if e != api.OK {
			t.Fatalf("%x: %d", a, e)
		}
		splitIs(t, slices.Concat(a, b), at+place, f, append(l, m...)...)
	}
}

// The pieces of all temporal units, each with its ObuUnit ahead, are the pieces (P19.7).
func TestUnitsAreThePieces(t *testing.T) {
	d := draws(216)
	for range 3000 {
		l := d.grouped(d.below(10))
		var again []api.Obu
		for _, one := range grouping(t, l) {
			again = append(again, unit())
			again = append(again, one...)
		}
		if !alike(again, l) {
			t.Fatalf("%v; want %v", again, l)
		}
	}
}

// A stream is cut into pieces, these are grouped, and the groups are put together as the stream was (P19.5, P19.7).
func TestStreamThereAndBack(t *testing.T) {
	d := draws(217)
	for range 1000 {
		b := stream(d.grouped(d.below(8))...)
		l, _, _ := split(t, b)
		var again []byte
		for _, one := range grouping(t, l) {
			c, e := units.Join(append([]api.Obu{unit()}, one...)...)
			if e != api.OK {
				t.Fatalf("%v: %d", one, e)
			}
			again = append(again, c...)
		}
		if !bytes.Equal(again, b) {
			t.Fatalf("%x; want %x", again, b)
		}
	}
}
