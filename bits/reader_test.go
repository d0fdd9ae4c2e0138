package bits_test

import (
	"bytes"
	"math"
	"strings"
	"testing"

	"zoetrope/api"
	"zoetrope/bits"
)

// P1.1: a reader that is none answers ErrNil, ahead of anything else.
func TestReaderNone(t *testing.T) {
	for i, r := range []*bits.Reader{nil, {}} {
		for _, k := range []kind{fixed(0), fixed(-1), fixed(33), signed(1), signed(0), uvlc(), leb(), align()} {
			if v, e := k.read(r); v != 0 || e != api.ErrNil {
				t.Errorf("%d: %s %d: %d, %d", i, k.name, k.n, v, e)
			}
		}
		if r.Left() != 0 || len(r.Rest()) != 0 {
			t.Errorf("%d: Left %d, Rest %x", i, r.Left(), r.Rest())
		}
	}
}

// P1.1: a reader of no bytes is one all the same.
func TestReaderOfNothing(t *testing.T) {
	for _, b := range [][]byte{nil, {}} {
		r := bits.New(b)
		expect(t, "nothing", r, fixed(0), well(0, 0))
		expect(t, "nothing", r, fixed(1), fail(api.ErrTrunc))
		expect(t, "nothing", r, fixed(33), fail(api.ErrArg))
		expect(t, "nothing", r, signed(1), fail(api.ErrTrunc))
		expect(t, "nothing", r, signed(0), fail(api.ErrArg))
		expect(t, "nothing", r, uvlc(), fail(api.ErrTrunc))
		expect(t, "nothing", r, leb(), fail(api.ErrTrunc))
		expect(t, "nothing", r, align(), well(0, 0))
		if r.Left() != 0 || len(r.Rest()) != 0 {
			t.Errorf("Left %d, Rest %x", r.Left(), r.Rest())
		}
	}
}

// P1.1: bytes handed in are copied: neither changed nor kept, their spare room neither.
func TestReaderCopies(t *testing.T) {
	room := []byte{0xa5, 0x40, 0x81, 0x01, 0x77, 0x77}
	before := bytes.Clone(room)
	r := bits.New(room[:4])
	r.Fixed(3)
	r.Signed(2)
	r.Uvlc()
	r.Align()
	r.Leb()
	r.Rest()
	if !bytes.Equal(room, before) {
		t.Errorf("changed: %x", room)
	}
	r = bits.New(room[:4])
	clear(room)
	expect(t, "kept", r, fixed(32), well(0xa5408101, 32))
	if r.Left() != 0 {
		t.Errorf("Left: %d", r.Left())
	}
}

// P1.2: fixed numbers of each size, at each place of a byte.
func TestFixed(t *testing.T) {
	s := unpack([]byte{0xa5, 0x3c, 0xff, 0x00, 0x81, 0x7e, 0xd2})
	for from := range len(s) + 1 {
		for n := range 33 {
			want := fail(api.ErrTrunc)
			if from+n <= len(s) {
				want = well(number(s[from:from+n]), n)
			}
			expect(t, s[from:], standing(s[from:]), fixed(n), want)
		}
	}
}

func TestFixedEnds(t *testing.T) {
	ones := strings.Repeat("1", 33)
	expect(t, "all ones", standing(ones), fixed(32), well(math.MaxUint32, 32))
	expect(t, "all ones", standing(ones), fixed(0), well(0, 0))
	expect(t, "just enough", standing(ones[:32]), fixed(32), well(math.MaxUint32, 32))
	expect(t, "one too few", standing(ones[:31]), fixed(32), fail(api.ErrTrunc))
	for _, n := range []int{-1, 33, 64, math.MaxInt, math.MinInt} {
		expect(t, "no such size", standing(ones), fixed(n), fail(api.ErrArg))
		expect(t, "no such size, nothing left", standing(""), fixed(n), fail(api.ErrArg))
	}
}

// wantSigned is what the document says of a signed number of n bits that stands at the beginning of s.
func wantSigned(s string, n int) answer {
	if len(s) < n+1 {
		return fail(api.ErrTrunc)
	}
	v := number(s[1 : n+1])
	if s[0] == '0' {
		return well(v, n+1)
	}
	if v == 0 {
		return fail(api.ErrSyntax)
	}
	return well(-v, n+1)
}

// P1.2: signed numbers, all of 1 to 7 bits, and those of each size at each place of a byte.
func TestSigned(t *testing.T) {
	for n := 1; n <= 7; n++ {
		for x := range 1 << (n + 1) {
			s := numeral(int64(x), n+1) + "101"
			expect(t, s, standing(s), signed(n), wantSigned(s, n))
		}
	}
	s := unpack([]byte{0xa5, 0x3c, 0xff, 0x00, 0x81, 0x7e, 0xd2, 0x80, 0x00})
	for from := range len(s) + 1 {
		for n := 1; n <= 31; n++ {
			expect(t, s[from:], standing(s[from:]), signed(n), wantSigned(s[from:], n))
		}
	}
}

func TestSignedEnds(t *testing.T) {
	ones, zeros := strings.Repeat("1", 31), strings.Repeat("0", 31)
	expect(t, "least", standing("1"+ones), signed(31), well(-math.MaxInt32, 32))
	expect(t, "greatest", standing("0"+ones), signed(31), well(math.MaxInt32, 32))
	expect(t, "nought", standing("0"+zeros), signed(31), well(0, 32))
	expect(t, "nought below 0", standing("1"+zeros), signed(31), fail(api.ErrSyntax))
	expect(t, "one too few, though no number", standing("1"+zeros[:30]), signed(31), fail(api.ErrTrunc))
	expect(t, "one bit", standing("11"), signed(1), well(-1, 2))
	expect(t, "one bit", standing("01"), signed(1), well(1, 2))
	expect(t, "one bit", standing("00"), signed(1), well(0, 2))
	expect(t, "one bit", standing("10"), signed(1), fail(api.ErrSyntax))
	expect(t, "one bit", standing("1"), signed(1), fail(api.ErrTrunc))
	for _, n := range []int{0, -1, 32, 33, math.MaxInt, math.MinInt} {
		expect(t, "no such size", standing("1"+ones+ones), signed(n), fail(api.ErrArg))
		expect(t, "no such size, nothing left", standing(""), signed(n), fail(api.ErrArg))
	}
}

// wantUvlc is what the document says of a uvlc that stands at the beginning of s.
func wantUvlc(s string) answer {
	if len(s) >= 32 && !strings.Contains(s[:32], "1") {
		return fail(api.ErrSyntax)
	}
	k := strings.IndexByte(s, '1')
	if k < 0 || len(s) < 2*k+1 {
		return fail(api.ErrTrunc)
	}
	return well(int64(1)<<k-1+number(s[k+1:2*k+1]), 2*k+1)
}

// P1.3: uvlcs in all bits of up to 12, which are too few for some, and of each length, whole and cut off.
func TestUvlc(t *testing.T) {
	for n := range 13 {
		for x := range 1 << n {
			s := numeral(int64(x), n)
			expect(t, s, standing(s), uvlc(), wantUvlc(s))
		}
	}
	for k := range 32 {
		for _, tail := range []string{strings.Repeat("0", k), strings.Repeat("1", k), unpack([]byte{0xa5, 0x3c, 0xf0, 0x81})[:k]} {
			s := strings.Repeat("0", k) + "1" + tail
			expect(t, s, standing(s), uvlc(), well(int64(1)<<k-1+number(tail), 2*k+1))
			expect(t, s+"1001", standing(s+"1001"), uvlc(), wantUvlc(s+"1001"))
			expect(t, "cut off", standing(s[:2*k]), uvlc(), fail(api.ErrTrunc))
		}
	}
}

func TestUvlcEnds(t *testing.T) {
	zeros, ones := strings.Repeat("0", 40), strings.Repeat("1", 31)
	expect(t, "least", standing("1"), uvlc(), well(0, 1))
	expect(t, "greatest", standing(zeros[:31]+"1"+ones), uvlc(), well(1<<32-2, 63))
	expect(t, "31 noughts and no more", standing(zeros[:31]), uvlc(), fail(api.ErrTrunc))
	expect(t, "32 noughts and no more", standing(zeros[:32]), uvlc(), fail(api.ErrSyntax))
	expect(t, "32 noughts, and a 1", standing(zeros[:32]+"1"+ones+ones), uvlc(), fail(api.ErrSyntax))
	expect(t, "40 noughts", standing(zeros), uvlc(), fail(api.ErrSyntax))
	expect(t, "none", standing(""), uvlc(), fail(api.ErrTrunc))
}

// P1.4: lebs of one byte to five, and those that are none.
func TestLeb(t *testing.T) {
	for _, c := range []struct {
		b    string
		want answer
	}{
		{"\x00", well(0, 8)},
		{"\x00\x01", well(0, 8)},
		{"\x7f", well(127, 8)},
		{"\x80\x01", well(128, 16)},
		{"\xac\x02", well(300, 16)},
		{"\xff\x7f\xff", well(1<<14-1, 16)},
		{"\x80\x80\x01", well(1<<14, 24)},
		{"\x81\x82\x83\x04", well(1|2<<7|3<<14|4<<21, 32)},
		{"\x80\x80\x80\x80\x01", well(1<<28, 40)},
		{"\x80\x80\x80\x80\x0f", well(15<<28, 40)},
		{"\xff\xff\xff\xff\x0f", well(math.MaxUint32, 40)},
		{"", fail(api.ErrTrunc)},
		{"\x80", fail(api.ErrTrunc)},
		{"\xff\xff\xff\xff", fail(api.ErrTrunc)},
		{"\x80\x00", fail(api.ErrSyntax)},
		{"\xff\x00\x01", fail(api.ErrSyntax)},
		{"\x80\x80\x80\x00", fail(api.ErrSyntax)},
		{"\x80\x80\x80\x80\x00", fail(api.ErrSyntax)},
		{"\x80\x80\x80\x80\x10", fail(api.ErrSyntax)},
		{"\xff\xff\xff\xff\x1f", fail(api.ErrSyntax)},
		{"\xff\xff\xff\xff\x80", fail(api.ErrSyntax)},
		{"\xff\xff\xff\xff\x8f\x01", fail(api.ErrSyntax)},
	} {
		expect(t, "leb", bits.New([]byte(c.b)), leb(), c.want)
		r := bits.New([]byte("\xff" + c.b))
		r.Fixed(8)
		expect(t, "leb at the second byte", r, leb(), c.want)
	}
}

// P1.4: a leb stands at a byte's beginning, and that is looked for ahead of its bytes.
func TestLebPlace(t *testing.T) {
	for n := 1; n < 8; n++ {
		for _, b := range []string{"\x00", "\x00\x05", "\x00\x80\x00"} {
			r := bits.New([]byte(b))
			r.Fixed(n)
			expect(t, "within a byte", r, leb(), fail(api.ErrArg))
		}
	}
	r := bits.New([]byte{0, 5})
	r.Fixed(7)
	r.Align()
	expect(t, "behind Align", r, leb(), well(5, 8))
}

// P1.5: Align goes over noughts alone; Left and Rest tell of each place.
func TestAlign(t *testing.T) {
	for x := range 256 {
		b := []byte{byte(x), 0xc3}
		s := unpack(b)
		for n := range 9 {
			r := bits.New(b)
			r.Fixed(n)
			want := fail(api.ErrSyntax)
			if !strings.Contains(s[n:8], "1") {
				want = well(0, 8-n)
			}
			if n == 0 {
				want = well(0, 0)
			}
			expect(t, s[n:], r, align(), want)
			if r.Left() != 16-n-want.used {
				t.Errorf("%s: Left %d", s[n:], r.Left())
			}
		}
	}
	r := standing("000")
	expect(t, "at the end", r, align(), well(0, 3))
	expect(t, "at the end", r, align(), well(0, 0))
}

func TestLeftAndRest(t *testing.T) {
	b := []byte{0x12, 0x34, 0x56}
	for n := range 25 {
		r := bits.New(b)
		r.Fixed(n)
		for range 2 {
			if r.Left() != 24-n || !bytes.Equal(r.Rest(), b[(n+7)/8:]) {
				t.Errorf("%d: Left %d, Rest %x", n, r.Left(), r.Rest())
			}
		}
	}
}

// P1.5: what Rest answers is new memory, each time.
func TestRestIsNew(t *testing.T) {
	r := bits.New([]byte{0x12, 0x34, 0x56})
	r.Fixed(4)
	one, two := r.Rest(), r.Rest()
	clear(one)
	_ = append(one[:0], 9, 9)
	if !bytes.Equal(two, []byte{0x34, 0x56}) {
		t.Errorf("two answers share memory: %x", two)
	}
	expect(t, "the reader's own", r, fixed(20), well(0x23456, 20))
}

// With an error the place stays, also between two bytes, and the next call reads from it.
func TestErrorsKeepThePlace(t *testing.T) {
	s := "1000" + strings.Repeat("0", 31) + "1010"
	r := standing(s)
	expect(t, s, r, signed(3), fail(api.ErrSyntax))
	expect(t, s, r, signed(32), fail(api.ErrArg))
	expect(t, s, r, fixed(33), fail(api.ErrArg))
	expect(t, s, r, leb(), fail(api.ErrArg))
	expect(t, s, r, align(), fail(api.ErrSyntax))
	expect(t, s, r, fixed(1), well(1, 1))
	expect(t, s, r, uvlc(), fail(api.ErrSyntax))
	expect(t, s, r, fixed(4), well(0, 4))
	expect(t, s, r, uvlc(), fail(api.ErrTrunc))
	expect(t, s, r, fixed(31), well(1, 31))
	expect(t, s, r, fixed(4), fail(api.ErrTrunc))
	expect(t, s, r, fixed(3), well(2, 3))
}

// The chapter's examples of readers, row by row.
func TestReaderExamples(t *testing.T) {
	r := bits.New([]byte{0xa5, 0x80})
	expect(t, "row 1", r, fixed(3), well(5, 3))
	expect(t, "row 1", r, signed(2), well(1, 3))
	expect(t, "row 1", r, align(), fail(api.ErrSyntax))
	expect(t, "row 1", r, fixed(11), fail(api.ErrTrunc))
	if r.Left() != 10 {
		t.Errorf("row 1: Left %d", r.Left())
	}
	expect(t, "row 1", r, fixed(2), well(1, 2))
	expect(t, "row 1", r, align(), well(0, 0))
	if r.Left() != 8 {
		t.Errorf("row 1: Left %d", r.Left())
	}

	r = bits.New([]byte{0x80})
	expect(t, "row 2", r, signed(3), fail(api.ErrSyntax))
	expect(t, "row 2", r, fixed(8), well(128, 8))
	expect(t, "row 2", bits.New([]byte{0, 0, 0, 0}), uvlc(), fail(api.ErrSyntax))
	expect(t, "row 2", bits.New([]byte{0, 0, 0, 1}), uvlc(), fail(api.ErrTrunc))
	expect(t, "row 2", bits.New([]byte{0}), uvlc(), fail(api.ErrTrunc))

	r = bits.New([]byte{0x50})
	expect(t, "row 3", r, uvlc(), well(1, 3))
	expect(t, "row 3", r, uvlc(), well(0, 1))
	expect(t, "row 3", r, uvlc(), fail(api.ErrTrunc))
	if r.Left() != 4 {
		t.Errorf("row 3: Left %d", r.Left())
	}

	expect(t, "row 4", bits.New([]byte{0xac, 2}), leb(), well(300, 16))
	expect(t, "row 4", bits.New([]byte{0x80, 0}), leb(), fail(api.ErrSyntax))
	expect(t, "row 4", bits.New([]byte{255, 255, 255, 255, 0x0f}), leb(), well(1<<32-1, 40))
	expect(t, "row 4", bits.New([]byte{255, 255, 255, 255, 0x1f}), leb(), fail(api.ErrSyntax))
	expect(t, "row 4", bits.New([]byte{0x80}), leb(), fail(api.ErrTrunc))

	r = bits.New([]byte{1, 2})
	expect(t, "row 5", r, fixed(1), well(0, 1))
	expect(t, "row 5", r, leb(), fail(api.ErrArg))
	if !bytes.Equal(r.Rest(), []byte{2}) {
		t.Errorf("row 5: Rest %x", r.Rest())
	}
	expect(t, "row 5", r, align(), fail(api.ErrSyntax))
}
