package heads_test

import (
	"fmt"
	"slices"
	"testing"

	"zoetrope/api"
	"zoetrope/bits"
	"zoetrope/heads"
)

// back asks for a header, and nothing left, of what was written of it (W6).
func back(t *testing.T, h api.Head, s api.Seq) {
	t.Helper()
	w := bits.Write()
	if e := heads.Write(w, h, s); e != api.OK {
		t.Fatalf("Write(%+v, %v): %d", h, s, e)
	}
	r := bits.New(w.Bytes())
	got, e := heads.Read(r, s)
	if e != api.OK || !same(got, h) {
		t.Fatalf("Read: %+v, %d; want %+v", got, e, h)
	}
	if r.Left() > 7 || r.Align() != api.OK || r.Left() != 0 {
		t.Fatalf("%+v in %v: %d bits left", h, s, r.Left())
	}
}

// again asks of a text whether what is read of it may be, and has, written, just the bits that were read; it tells whether there was a header.
func again(t *testing.T, text string, s api.Seq) bool {
	t.Helper()
	r := standing(text)
	h, e := heads.Read(r, s)
	if e != api.OK {
		return false
	}
	if e := heads.Check(h, s); e != api.OK {
		t.Fatalf("read of %s in %v: %+v may not be: %d", text, s, h, e)
	}
	w := bits.Write()
	if e := heads.Write(w, h, s); e != api.OK {
		t.Fatalf("Write(%+v, %v): %d", h, s, e)
	}
	has(t, fmt.Sprintf("what was read of %s in %v", text, s), w, text[:len(text)-r.Left()])
	return true
}

// What was written is read as it was, and nothing is left (P20.5, W6).
func TestThereAndBack(t *testing.T) {
	for _, h := range shapes() {
		back(t, h, great())
	}
	for _, x := range rows() {
		back(t, x.h, x.s)
	}
	d := draws(51)
	for range 20000 {
		s := d.seq()
		back(t, d.head(s), s)
	}
}

// Each number that a field may be comes back (P20.5, W6).
func TestNumbersComeBack(t *testing.T) {
	for _, base := range shapes() {
		for _, f := range fields(len(base.Strengths)) {
			for v := -40; v < 300; v++ {
				if h := but(base, func(h *api.Head) { f.put(h, v) }); modelMay(h, great()) {
					back(t, h, great())
				}
			}
		}
		for _, turn := range truths() {
			if h := but(base, turn); modelMay(h, great()) {
				back(t, h, great())
			}
		}
	}
}

// Many headers in one writer come back in their order; others' numbers may stand between (P20.5, W6).
func TestManyComeBack(t *testing.T) {
	d := draws(52)
	s := great()
	var l []api.Head
	w := bits.Write()
	for i := range 500 {
		h := d.head(s)
		l = append(l, h)
		if e := heads.Write(w, h, s); e != api.OK {
			t.Fatal(e)
		}
		w.Uvlc(uint32(i))
	}
	r := bits.New(w.Bytes())
	for i, want := range l {
		h, e := heads.Read(r, s)
		if e != api.OK || !same(h, want) {
			t.Fatalf("%d: %+v, %d; want %+v", i, h, e, want)
		}
		if v, e := r.Uvlc(); v != uint32(i) || e != api.OK {
			t.Fatalf("%d: %d, %d", i, v, e)
		}
	}
}

// What is read of any bits may be, and is written as just these (P20.5, W6).
func TestReadIsWritten(t *testing.T) {
	d := draws(53)
	well := 0
	for range 60000 {
		text := []byte(d.text(240))
		few := d.below(6)
		for i := range text {
			if few > 0 && !d.is(few*2) {
				text[i] = '0'
			}
		}
		if len(text) > 0 && !d.is(8) {
			text[0] = '0'
		}
		if again(t, string(text), d.seq()) {
			well++
		}
	}
	if well < 10000 {
		t.Errorf("%d were read", well)
	}
}

// And of bits of headers of which one is turned (P20.5, W6).
func TestTurnedIsWritten(t *testing.T) {
	d := draws(54)
	for _, x := range bothTexts(&d, 500) {
		text := []byte(closed(x.bits) + d.text(100))
		for i := range text {
			text[i] ^= 1
			again(t, string(text), x.s)
			text[i] ^= 1
		}
	}
}

// A sequence header that was written is read as it was; one that is read may be, and has just the bytes that were read (P20.5, W6).
func TestSeqThereAndBack(t *testing.T) {
	for w := 16; w <= 256; w += 2 {
		for h := 16; h <= 256; h += 2 {
			b, e := heads.SeqBytes(seq(w, h))
			if e != api.OK {
				t.Fatal(e)
			}
			if s, e := heads.ReadSeq(b); s != seq(w, h) || e != api.OK {
				t.Fatalf("%d %d: %v, %d", w, h, s, e)
			}
		}
	}
	for v := range 65536 {
		b := []byte{byte(v / 256), byte(v % 256)}
		s, e := heads.ReadSeq(b)
		if e != api.OK {
			continue
		}
		if e := heads.CheckSeq(s); e != api.OK {
			t.Fatalf("%x: %v may not be: %d", b, s, e)
		}
		if again, e := heads.SeqBytes(s); !slices.Equal(again, b) || e != api.OK {
			t.Fatalf("%x: %v, %x, %d", b, s, again, e)
		}
	}
}

// What Check lets through is just what Write writes (P20.5).
func TestCheckTellsWrite(t *testing.T) {
	d := draws(55)
	l := far()
	for range 20000 {
		s := d.seq()
		h := d.head(s)
		if all := fields(len(h.Strengths)); d.is(2) {
			v := d.below(300) - 40
			if d.is(3) {
				v = l[d.below(len(l))]
			}
			all[d.below(len(all))].put(&h, v)
		}
		w := bits.Write()
		e := heads.Write(w, h, s)
		if want := heads.Check(h, s); e != want || (e != api.OK) != (len(w.Bytes()) == 0) {
			t.Fatalf("Write(%+v, %v): %d, %x; Check: %d", h, s, e, w.Bytes(), want)
		}
	}
}
