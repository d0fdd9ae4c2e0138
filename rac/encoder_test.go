package rac_test

import (
	"bytes"
	"slices"
	"testing"

	"zoetrope/api"
	"zoetrope/rac"
)

// wrong is what is no part, whatever an encoder or a decoder stands at.
func wrong() []piece {
	return []piece{
		{0, 0}, {5, 5}, {6, 5}, {1, 0}, {32767, 0}, {32767, 32767}, {32768, 32768}, {32768, 0},
		{0, 32769}, {32767, 32769}, {32768, 32769}, {5, 65536}, {0, 1 << 31}, {0, 1<<32 - 1},
		{1<<32 - 1, 0}, {1<<32 - 1, 1}, {1 << 31, 1<<31 + 1}, {1<<32 - 2, 1<<32 - 1}, {65536, 65537}, {65536, 5},
	}
}

// The chapter's rows of an encoder (P2.1).
func TestEncoderExamples(t *testing.T) {
	half := []byte{0x7f, 0xff, 0xc0}
	for _, c := range []struct {
		l []piece
		b []byte
	}{
		{nil, nil},
		{[]piece{{0, 16384}}, nil},
		{[]piece{{16384, 32768}}, half},
		{[]piece{{0, 32768}}, nil},
	} {
		e := rac.New()
		put(t, e, c.l...)
		if b := e.Bytes(); !bytes.Equal(b, c.b) {
			t.Errorf("%v: got %x, want %x", c.l, b, c.b)
		}
	}
	e := rac.New()
	for _, c := range []struct {
		p piece
		x api.Errno
	}{{piece{5, 5}, 2}, {piece{6, 5}, 2}, {piece{0, 32769}, 2}, {piece{32767, 32768}, 0}} {
		if x := e.Put(c.p.lo, c.p.hi); x != c.x {
			t.Errorf("Put %v: got %d, want %d", c.p, x, c.x)
		}
	}
}

// One part of every width at either end, worked out by hand: r is 131071 at first (P2.1).
func TestOnePart(t *testing.T) {
	for _, c := range []struct {
		p piece
		b []byte
	}{
		{piece{0, 1}, nil},
		{piece{0, 32767}, nil},
		{piece{1, 2}, []byte{0x00, 0x01, 0xff, 0xff}},
		{piece{1, 32768}, []byte{0x00, 0x01, 0xff, 0xff}},
		{piece{32766, 32767}, []byte{0xff, 0xfb, 0x80, 0x02}},
		{piece{32767, 32768}, []byte{0xff, 0xfd, 0x80, 0x01}},
		{piece{16384, 16385}, []byte{0x7f, 0xff, 0xc0}},
	} {
		e := rac.New()
		put(t, e, c.p)
		if b := e.Bytes(); !bytes.Equal(b, c.b) {
			t.Errorf("%v: got %x, want %x", c.p, b, c.b)
		}
	}
}

// The bytes are those of a number of any length, behind every single part (P2.1).
func TestEncoderAgainstModel(t *testing.T) {
	for name, habit := range habits() {
		for seed := range draws(6) {
			e, s := rac.New(), fresh()
			for i, p := range row(habit, seed, 250) {
				put(t, e, p)
				s.narrow(p)
				if b := e.Bytes(); !bytes.Equal(b, s.bytes()) {
					t.Fatalf("%s, %d, behind part %d (%v): got %x, want %x", name, seed, i, p, b, s.bytes())
				}
			}
		}
	}
}

// The byte ahead takes a carry, over no byte, one byte and many bytes 255 (P2.1).
func TestCarry(t *testing.T) {
	longest := 0
	for _, target := range [][]byte{{0x80}, {0x01}, {0xff}, {0x12, 0x35}, {0x00, 0x00, 0x01}, {0xff, 0xff, 0x00, 0x01}, {0x00, 0xff, 0xff, 0xff, 0xff, 0x01}} {
		for n := 1; n < 120; n++ {
			l, at := near(t, target, n)
			if at+1 >= all {
				continue
			}
			e, s := rac.New(), fresh()
			put(t, e, l...)
			for _, p := range l {
				s.narrow(p)
			}
			before := e.Bytes()
			put(t, e, piece{at + 1, at + 2})
			s.narrow(piece{at + 1, at + 2})
			after := e.Bytes()
			if !bytes.Equal(after, s.bytes()) {
				t.Fatalf("%x, %d parts: got %x, want %x", target, n, after, s.bytes())
			}
			if bytes.Compare(before, target) >= 0 || bytes.Compare(after, target) <= 0 {
				t.Fatalf("%x, %d parts: %x and %x are not on either side", target, n, before, after)
			}
			longest = max(longest, run255(before))
		}
	}
	if longest < 100 {
		t.Errorf("the longest carry went over %d bytes", longest)
	}
}

// run255 is how many bytes 255 stand in one row.
func run255(b []byte) int {
	most, now := 0, 0
	for _, x := range b {
		now++
		if x != 255 {
			now = 0
		}
		most = max(most, now)
	}
	return most
}

// A carry that is still within low when the bytes are asked for goes out with them, and the encoder stays as it is (P2.1).
func TestBytesLeavesEncoder(t *testing.T) {
	for name, habit := range habits() {
		l := row(habit, 77, 200)
		e, quiet := rac.New(), rac.New()
		for _, p := range l {
			put(t, e, p)
			put(t, quiet, p)
			first := e.Bytes()
			for range 3 {
				if b := e.Bytes(); !bytes.Equal(b, first) {
					t.Fatalf("%s: asked again: got %x, want %x", name, b, first)
				}
			}
		}
		if !bytes.Equal(e.Bytes(), quiet.Bytes()) {
			t.Errorf("%s: an encoder that was asked writes otherwise", name)
		}
	}
}

// ErrArg, and nothing has changed: neither the bytes nor what goes behind them (P2.1).
func TestPutWrong(t *testing.T) {
	for name, habit := range habits() {
		e, s := rac.New(), fresh()
		for _, p := range row(habit, 5, 60) {
			for _, q := range wrong() {
				if x := e.Put(q.lo, q.hi); x != api.ErrArg {
					t.Fatalf("Put %v: %d", q, x)
				}
			}
			if b := e.Bytes(); !bytes.Equal(b, s.bytes()) {
				t.Fatalf("%s: wrong parts have changed the bytes: got %x, want %x", name, b, s.bytes())
			}
			put(t, e, p)
			s.narrow(p)
		}
	}
}

func TestEncoderNone(t *testing.T) {
	var zero rac.Encoder
	for _, e := range []*rac.Encoder{nil, &zero, new(rac.Encoder)} {
		for _, p := range append(wrong(), piece{0, 1}, piece{0, all}) {
			if x := e.Put(p.lo, p.hi); x != api.ErrNil {
				t.Errorf("Put %v: %d", p, x)
			}
		}
		if b := e.Bytes(); len(b) != 0 {
			t.Errorf("Bytes: %x", b)
		}
	}
}

// What Bytes answers is nobody else's: not the encoder's, not another answer's (P2.1).
func TestBytesIsNew(t *testing.T) {
	l := row(habits()["any"], 9, 100)
	e, s := rac.New(), fresh()
	for _, p := range l {
		put(t, e, p)
		s.narrow(p)
		one, two := e.Bytes(), e.Bytes()
		keep := slices.Clone(two)
		spoil(one)
		if !bytes.Equal(two, keep) {
			t.Fatal("two answers share memory")
		}
		if b := e.Bytes(); !bytes.Equal(b, s.bytes()) {
			t.Fatalf("the encoder shares memory with its answer: got %x, want %x", b, s.bytes())
		}
	}
	old := e.Bytes()
	keep := slices.Clone(old)
	put(t, e, l...)
	if !bytes.Equal(old, keep) {
		t.Error("an answer changes as the encoder goes on")
	}
}

// spoil writes over bytes and over their spare room.
func spoil(b []byte) {
	b = b[:cap(b)]
	for i := range b {
		b[i] ^= 0x5a
	}
}

// Two encoders know nothing of each other (R2).
func TestEncodersApart(t *testing.T) {
	one, two, s := rac.New(), rac.New(), fresh()
	for i, p := range row(habits()["any"], 3, 100) {
		put(t, one, p)
		s.narrow(p)
		put(t, two, piece{uint32(i), uint32(i) + 7})
	}
	if !bytes.Equal(one.Bytes(), s.bytes()) {
		t.Error("an encoder's bytes hang on another one's")
	}
}
