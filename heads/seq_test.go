package heads_test

import (
	"slices"
	"testing"

	"zoetrope/api"
	"zoetrope/heads"
)

// seqIs asks of all three calls for just these bytes of a sequence header.
func seqIs(t *testing.T, s api.Seq, a, b byte) {
	t.Helper()
	if e := heads.CheckSeq(s); e != api.OK {
		t.Fatalf("CheckSeq(%v): %d", s, e)
	}
	if l, e := heads.SeqBytes(s); !slices.Equal(l, []byte{a, b}) || e != api.OK {
		t.Fatalf("SeqBytes(%v): %x, %d; want %x %x", s, l, e, a, b)
	}
	if q, e := heads.ReadSeq([]byte{a, b}); q != s || e != api.OK {
		t.Fatalf("ReadSeq(%x %x): %v, %d; want %v", a, b, q, e, s)
	}
}

// noSeq asks of the calls for ErrArg, and for nothing beside it.
func noSeq(t *testing.T, s api.Seq) {
	t.Helper()
	if e := heads.CheckSeq(s); e != api.ErrArg {
		t.Fatalf("CheckSeq(%v): %d", s, e)
	}
	if l, e := heads.SeqBytes(s); len(l) != 0 || e != api.ErrArg {
		t.Fatalf("SeqBytes(%v): %x, %d", s, l, e)
	}
}

// readSeqIs asks for a sequence header or an error.
func readSeqIs(t *testing.T, want api.Seq, e api.Errno, b ...byte) {
	t.Helper()
	if s, f := heads.ReadSeq(b); s != want || f != e {
		t.Fatalf("ReadSeq(%x): %v, %d; want %v, %d", b[:min(len(b), 9)], s, f, want, e)
	}
}

// Sequence headers by hand, and all that there are: each side's number is a row of its own (P20.1).
func TestSeqs(t *testing.T) {
	for _, x := range seqRows() {
		seqIs(t, x.s, x.a, x.b)
	}
	for i := range 121 {
		for k := range 121 {
			two := i*512 + k*4 // the first number's lowest bit stands ahead of nine others
			seqIs(t, seq(16+i+i, 16+k+k), byte(two/256), byte(two%256))
		}
	}
}

// Sides that may not be: odd ones, ones beyond the ends, and ones far away; beside each other one too (P20.1).
func TestNoSeqs(t *testing.T) {
	for _, n := range numbers() {
		if n >= 16 && n <= 256 && n%2 == 0 {
			continue
		}
		for _, other := range []int{16, 18, 100, 254, 256, n, 0, -16, 15, 17, 257, 258} {
			noSeq(t, seq(n, other))
			noSeq(t, seq(other, n))
		}
	}
}

// Every pair of bytes (P20.1).
func TestReadPairs(t *testing.T) {
	for v := range 65536 {
		w, h := 16+2*(v/512), 16+2*(v/4%128)
		want, e := seq(w, h), api.OK
		switch {
		case w > 256 || h > 256:
			want, e = api.Seq{}, api.ErrLimit
		case v%4 > 0:
			want, e = api.Seq{}, api.ErrSyntax
		}
		readSeqIs(t, want, e, byte(v/256), byte(v%256))
	}
}

// Too few bytes and too many, and which error counts first (P20.1).
func TestReadOtherBytes(t *testing.T) {
	none := api.Seq{}
	readSeqIs(t, none, api.ErrTrunc)
	for v := range 256 {
		readSeqIs(t, none, api.ErrTrunc, byte(v))
	}
	for _, more := range [][]byte{{0}, {1}, {255}, {0, 0}, {0x30, 0x20}, make([]byte, 1000), make([]byte, 1<<20)} {
		for _, x := range seqRows() {
			readSeqIs(t, none, api.ErrSyntax, append([]byte{x.a, x.b}, more...)...)
		}
		readSeqIs(t, none, api.ErrSyntax, append([]byte{0x30, 0x21}, more...)...)
		readSeqIs(t, none, api.ErrLimit, append([]byte{0xf2, 0x00}, more...)...) // W 258
		readSeqIs(t, none, api.ErrLimit, append([]byte{0x01, 0xe4}, more...)...) // H 258
		readSeqIs(t, none, api.ErrLimit, append([]byte{0xff, 0xff}, more...)...)
	}
	readSeqIs(t, none, api.ErrLimit, 0xf2, 0x03)
	readSeqIs(t, none, api.ErrLimit, 0x01, 0xe5)
}

// The chapter's examples of sequence headers (P20.1).
func TestSeqExamples(t *testing.T) {
	seqIs(t, seq(64, 32), 0x30, 0x20)
	readSeqIs(t, api.Seq{}, api.ErrTrunc, 0x30)
	readSeqIs(t, api.Seq{}, api.ErrLimit, 0xff, 0xfc)
	readSeqIs(t, api.Seq{}, api.ErrSyntax, 0x30, 0x21)
	readSeqIs(t, api.Seq{}, api.ErrSyntax, 0x30, 0x20, 0x00)
	seqIs(t, seq(16, 16), 0, 0)
	noSeq(t, seq(15, 16))
	noSeq(t, seq(16, 258))
}
