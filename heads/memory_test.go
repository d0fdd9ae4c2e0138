package heads_test

import (
	"slices"
	"testing"

	"zoetrope/api"
	"zoetrope/bits"
	"zoetrope/heads"
)

// spare is a copy of a list that stands within a longer one, and that one, whose other elements are a mark.
func spare[T any](l []T, mark T) (part, all []T) {
	all = append(slices.Concat([]T{mark, mark}, l), mark, mark, mark)
	return all[2 : 2+len(l)], all
}

// A header's strengths are only read, by Check and by Write, with errors too; so is the room behind them (P20.4).
func TestHeadIsOnlyRead(t *testing.T) {
	mark := api.Strength{YPri: 7, YSec: 77, UVPri: 777, UVSec: 7777}
	for n := range 4 {
		base := strong(lossy(inter()), n)
		for _, put := range []func(h *api.Head){func(*api.Head) {}, func(h *api.Head) { h.Sharp = 8 }, func(h *api.Head) { h.CdefBits = 3 - n }, func(h *api.Head) { h.Strengths[0].UVSec = 9 }} {
			h := but(base, put)
			part, all := spare(h.Strengths, mark)
			want := slices.Clone(all)
			h.Strengths = part
			heads.Check(h, great())
			heads.Write(bits.Write(), h, great())
			if !slices.Equal(all, want) {
				t.Fatalf("strengths are %v, were %v", all, want)
			}
		}
	}
}

// What was handed to Write is not kept: whoever handed it in may write it over (P20.4).
func TestHeadIsNotKept(t *testing.T) {
	for n := range 4 {
		h := strong(lossy(key()), n)
		want := modelText(h)
		w := bits.Write()
		if e := heads.Write(w, h, great()); e != api.OK {
			t.Fatal(e)
		}
		clear(h.Strengths)
		has(t, "written", w, want)
		if b := w.Bytes(); !slices.Equal(b, pack(want+"1")) {
			t.Fatalf("%x", b)
		}
	}
}

// The bytes of a sequence header are only read, and not kept; those that are answered are new ones each time (P20.4).
func TestSeqMemory(t *testing.T) {
	for _, x := range seqRows() {
		for _, l := range [][]byte{{x.a, x.b}, {x.a, x.b, 9}, {x.a}, {}, {255, 255}} {
			part, all := spare(l, 0xa5)
			want := slices.Clone(all)
			s, _ := heads.ReadSeq(part)
			if !slices.Equal(all, want) {
				t.Fatalf("bytes are %x, were %x", all, want)
			}
			kept := s
			clear(all)
			if s != kept {
				t.Fatal(s)
			}
		}
		a, _ := heads.SeqBytes(x.s)
		b, _ := heads.SeqBytes(x.s)
		clear(a[:cap(a)])
		c, _ := heads.SeqBytes(x.s)
		if want := []byte{x.a, x.b}; !slices.Equal(b, want) || !slices.Equal(c, want) {
			t.Fatalf("%x and %x, want %x", b, c, want)
		}
	}
}

// Strengths that are read are new ones each time: none shares any with another answer, or with what is written (P20.4).
func TestReadMemory(t *testing.T) {
	for n := range 4 {
		want := strong(lossy(inter()), n)
		text := modelText(want)
		r := standing(text + text)
		a, e := heads.Read(r, great())
		if e != api.OK || !same(a, want) {
			t.Fatalf("%+v, %d", a, e)
		}
		over := a.Strengths[:cap(a.Strengths)]
		for i := range over {
			over[i] = api.Strength{YPri: 9, YSec: 9, UVPri: 9, UVSec: 9}
		}
		b, e := heads.Read(r, great())
		if e != api.OK || !same(b, want) || r.Left() != 0 {
			t.Fatalf("%+v, %d", b, e)
		}
		clear(over)
		w := bits.Write()
		if e := heads.Write(w, b, great()); e != api.OK {
			t.Fatal(e)
		}
		clear(b.Strengths[:cap(b.Strengths)])
		has(t, "written", w, text)
	}
}

// The bytes that a reader was made of may be written over ahead of Read and behind it (P20.4).
func TestReaderMemory(t *testing.T) {
	want := strong(lossy(key()), 3)
	b := pack(modelText(want))
	kept := slices.Clone(b)
	r := bits.New(b)
	clear(b)
	h, e := heads.Read(r, great())
	if e != api.OK || !same(h, want) {
		t.Fatalf("%+v, %d", h, e)
	}
	r = bits.New(kept)
	h, _ = heads.Read(r, great())
	if !slices.Equal(kept, pack(modelText(want))) {
		t.Fatalf("%x", kept)
	}
	clear(kept)
	if !same(h, want) {
		t.Fatalf("%+v", h)
	}
}

// A header without Cdef, and one with an error, have no strengths (P20.4).
func TestNoStrengths(t *testing.T) {
	for _, h := range []api.Head{key(), inter(), lossy(key()), existing(3)} {
		got, e := heads.Read(standing(modelText(h)), great())
		if e != api.OK || len(got.Strengths) != 0 {
			t.Fatalf("%+v, %d", got, e)
		}
	}
	text := modelText(strong(lossy(key()), 3))
	if got, e := heads.Read(standing(text[:len(text)-1]), great()); e != api.ErrTrunc || got.Strengths != nil {
		t.Fatalf("%+v, %d", got, e)
	}
}
