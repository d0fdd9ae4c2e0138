package heads_test

import (
	"slices"
	"testing"

	"zoetrope/api"
	"zoetrope/bits"
	"zoetrope/heads"
)

// aheads are what a writer may have already: it ends at each place of a byte.
func aheads() []string {
	all := "0110100111010011"
	var l []string
	for n := range len(all) {
		l = append(l, all[:n])
	}
	return l
}

// Headers of every shape by hand, behind anything (P20.2).
func TestWriteByHand(t *testing.T) {
	for _, x := range rows() {
		for _, ahead := range aheads() {
			writeIs(t, ahead, x.h, x.s, closed(x.bits))
		}
	}
}

// The chapter's examples of Write (P20.2).
func TestWriteExamples(t *testing.T) {
	for _, x := range []struct {
		h    api.Head
		want []byte
		bits string
	}{
		{existing(5), []byte{0xd0}, "1101"},
		{key(), []byte{0x7f, 0xe0, 0, 0}, "01111111111000000000000000000"},
	} {
		w := bits.Write()
		if e := heads.Write(w, x.h, little()); e != api.OK || !slices.Equal(w.Bytes(), x.want) {
			t.Errorf("Write(%+v): %d, %x", x.h, e, w.Bytes())
		}
		writeIs(t, "", x.h, little(), x.bits)
	}
}

// Each number that a field may be is written as itself, and no other bit with it (P20.2).
func TestWriteEachNumber(t *testing.T) {
	for _, base := range []api.Head{key(), inter(), lossy(inter()), strong(lossy(key()), 1), strong(lossy(inter()), 3)} {
		for _, f := range fields(len(base.Strengths)) {
			for v := -31; v < 256; v++ {
				if h := but(base, func(h *api.Head) { f.put(h, v) }); modelMay(h, great()) {
					writeIs(t, "101", h, great(), modelText(h))
				}
			}
		}
		for _, turn := range truths() {
			if h := but(base, turn); modelMay(h, great()) {
				writeIs(t, "1", h, great(), modelText(h))
			}
		}
	}
	for slot := range 8 {
		writeIs(t, "0", existing(slot), little(), "1"+numeral(3, slot))
	}
}

// Any headers, in any sequences, behind anything (P20.2).
func TestWriteModel(t *testing.T) {
	d := draws(21)
	for range 20000 {
		s := d.seq()
		h := d.head(s)
		writeIs(t, d.text(d.below(20)), h, s, modelText(h))
	}
}

// One header behind the other (P20.2).
func TestWriteMany(t *testing.T) {
	d := draws(22)
	w, want := bits.Write(), ""
	for range 300 {
		s := d.seq()
		h := d.head(s)
		if e := heads.Write(w, h, s); e != api.OK {
			t.Fatalf("Write(%+v, %v): %d", h, s, e)
		}
		want += modelText(h)
	}
	has(t, "many", w, want)
}

// Of a header that may not be, or in a sequence that may not be, nothing is written (P20.2).
func TestWriteNothing(t *testing.T) {
	for _, base := range shapes() {
		for _, ahead := range aheads() {
			noWrite(t, ahead, base, seq(258, 256), api.ErrArg)
			noWrite(t, ahead, base, api.Seq{}, api.ErrArg)
			for _, f := range fields(len(base.Strengths)) {
				for _, v := range []int{-32, 256, 1 << 30, -1 << 30} {
					noWrite(t, ahead, but(base, func(h *api.Head) { f.put(h, v) }), great(), api.ErrArg)
				}
			}
		}
	}
	d := draws(23)
	l := far()
	for range 5000 {
		s := d.seq()
		h := d.head(s)
		all := fields(len(h.Strengths))
		all[d.below(len(all))].put(&h, l[d.below(len(l))])
		if !modelMay(h, s) {
			noWrite(t, d.text(d.below(20)), h, s, api.ErrArg)
		}
	}
	noWrite(t, "0", strong(lossy(key()), 3), seq(255, 256), api.ErrArg)
	noWrite(t, "0", but(strong(lossy(key()), 3), func(h *api.Head) { h.Strengths = h.Strengths[:7] }), great(), api.ErrArg)
	noWrite(t, "0", but(strong(lossy(key()), 3), func(h *api.Head) { h.Strengths[7].UVSec = 4 }), great(), api.ErrArg)
}

// A writer that is none counts ahead of all that is wrong beside it (P20.2).
func TestWriteNoWriter(t *testing.T) {
	for _, w := range []*bits.Writer{nil, {}} {
		for _, s := range []api.Seq{little(), great(), {}, seq(15, 16)} {
			for _, h := range append(shapes(), api.Head{}, existing(8), existing(-1), but(key(), func(h *api.Head) { h.Cols = 9 })) {
				if e := heads.Write(w, h, s); e != api.ErrNil || len(w.Bytes()) != 0 {
					t.Fatalf("Write(none, %+v, %v): %d", h, s, e)
				}
			}
		}
	}
}
