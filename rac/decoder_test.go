package rac_test

import (
	"bytes"
	"slices"
	"testing"

	"zoetrope/api"
	"zoetrope/rac"
)

// The chapter's rows of a decoder (P2.2).
func TestDecoderExamples(t *testing.T) {
	d := rac.Read(nil)
	stand(t, d, 0)
	if x := d.Take(1, 2); x != 2 {
		t.Errorf("Take(1, 2): %d", x)
	}
	take(t, d, piece{0, 1})
	stand(t, d, 0)

	d = rac.Read([]byte{0xff, 0xff, 0xff, 0xff})
	stand(t, d, 32767)
	take(t, d, piece{32767, 32768})
	stand(t, d, 32767)

	d = rac.Read([]byte{0x7f, 0xff, 0xc0})
	stand(t, d, 16384)
	take(t, d, piece{16384, 32768})
	stand(t, d, 0)
}

// strings are bytes of all sorts, of each length that a decoder's first four bytes may end in.
func samples() [][]byte {
	l := [][]byte{
		nil, {}, {0}, {1}, {255}, {0, 0, 0, 0}, {0, 0, 0, 1}, {0, 0, 0, 0, 1}, {255, 255}, {255, 255, 255},
		{255, 255, 255, 255}, {255, 255, 255, 254}, {255, 255, 255, 254, 255, 255}, {255, 255, 254, 255}, {254, 255, 255, 255},
		{255, 255, 255, 255, 0, 0, 1}, {255, 255, 255, 255, 255}, {255, 254, 255, 255, 255}, {128}, {127, 255, 255, 255, 255},
		slices.Repeat([]byte{255}, 30), slices.Repeat([]byte{0, 255}, 20), slices.Repeat([]byte{255, 0}, 20),
	}
	d := draws(11)
	for n := range 30 {
		l = append(l, d.bytes(n))
	}
	return l
}

// A decoder stands where the number of its bytes stands, part by part, beyond the end of its bytes too (P2.2, P2.4).
func TestDecoderAgainstModel(t *testing.T) {
	for i, b := range samples() {
		for seed := range draws(8) {
			w := seed*1000 + draws(i)
			d, s := rac.Read(b), fresh()
			for range 150 {
				at := s.place(b)
				if at > 32767 {
					t.Fatalf("%x: %d", b, at)
				}
				stand(t, d, at)
				p := w.around(at)
				take(t, d, p)
				s.narrow(p)
			}
		}
	}
}

// Whatever part is taken, as long as it has the place, the decoder goes on (P2.4).
func TestEveryPartThatHasIt(t *testing.T) {
	for _, b := range samples() {
		for _, choose := range []func(v uint32) piece{
			func(v uint32) piece { return piece{v, v + 1} },
			func(v uint32) piece { return piece{v, all} },
			func(v uint32) piece { return piece{0, v + 1} },
			func(v uint32) piece { return piece{0, all} },
			func(v uint32) piece { return piece{v / 2, v + 1 + (all-1-v)/2} },
		} {
			d := rac.Read(b)
			for range 400 {
				v, x := d.Value()
				if v >= all || x != api.OK {
					t.Fatalf("%x: Value: %d, %d", b, v, x)
				}
				take(t, d, choose(v))
			}
		}
	}
}

// Four bytes 255 are read as if the last of them were 254, and not one byte more of them is (P2.2).
func TestFour255(t *testing.T) {
	full, less := []byte{255, 255, 255, 255, 7, 9, 200, 31}, []byte{255, 255, 255, 254, 7, 9, 200, 31}
	one, two := rac.Read(full), rac.Read(less)
	for i := range 40 {
		v, _ := one.Value()
		stand(t, two, v)
		p := piece{v - v%uint32(1+i%5), v + 1}
		take(t, one, p)
		take(t, two, p)
	}
	// 2^32 - 3 stands elsewhere, as soon as the range is narrow enough to see it.
	third := rac.Read([]byte{255, 255, 255, 253})
	seen := false
	four := rac.Read([]byte{255, 255, 255, 255})
	for range 3 {
		v, _ := third.Value()
		w, _ := four.Value()
		if v != w {
			seen = true
			break
		}
		take(t, third, piece{v, v + 1})
		take(t, four, piece{v, v + 1})
	}
	if !seen {
		t.Error("254 and 253 are read alike")
	}
}

// ErrArg, unless the part has the place and ends at 32768 at most; and nothing has changed (P2.2).
func TestTakeWrong(t *testing.T) {
	for i, b := range samples() {
		w := draws(i)
		d, s := rac.Read(b), fresh()
		for range 40 {
			v := s.place(b)
			l := append(wrong(), piece{v + 1, v + 2}, piece{v + 1, all}, piece{0, v}, piece{v, v}, piece{v + 1, v}, piece{v, all + 1}, piece{v, 1<<32 - 1})
			if v > 0 {
				l = append(l, piece{v - 1, v})
			}
			for _, p := range l {
				if x := d.Take(p.lo, p.hi); x != api.ErrArg {
					t.Fatalf("%x at %d: Take %v: %d", b, v, p, x)
				}
			}
			stand(t, d, v)
			p := w.around(v)
			take(t, d, p)
			s.narrow(p)
		}
	}
}

func TestDecoderNone(t *testing.T) {
	var zero rac.Decoder
	for _, d := range []*rac.Decoder{nil, &zero, new(rac.Decoder)} {
		if v, x := d.Value(); v != 0 || x != api.ErrNil {
			t.Errorf("Value: %d, %d", v, x)
		}
		for _, p := range append(wrong(), piece{0, 1}, piece{0, all}) {
			if x := d.Take(p.lo, p.hi); x != api.ErrNil {
				t.Errorf("Take %v: %d", p, x)
			}
		}
	}
}

// A decoder keeps a copy: bytes that are handed in are not changed, may change behind it, and their spare room is not read (P2.2).
func TestReadCopies(t *testing.T) {
	w := draws(4)
	for n := range 24 {
		room := w.bytes(40)
		keep := slices.Clone(room)
		b := room[:n]
		d, s := rac.Read(b), fresh()
		for i := range 40 {
			if i == 3 {
				if !bytes.Equal(room, keep) {
					t.Fatalf("%d: the bytes handed in have changed", n)
				}
				spoil(room)
			}
			at := s.place(keep[:n])
			stand(t, d, at)
			p := w.around(at)
			take(t, d, p)
			s.narrow(p)
		}
		spoil(room)
		if !bytes.Equal(room, keep) {
			t.Fatalf("%d: the bytes handed in have changed", n)
		}
	}
}

// To ask where it stands changes nothing (P2.2).
func TestValueLeavesDecoder(t *testing.T) {
	b := []byte{0x9a, 0x31, 0xee, 0x05, 0x77, 0xc2}
	d, s := rac.Read(b), fresh()
	w := draws(8)
	for range 20 {
		for range 4 {
			stand(t, d, s.place(b))
		}
		p := w.around(s.place(b))
		take(t, d, p)
		s.narrow(p)
	}
}
