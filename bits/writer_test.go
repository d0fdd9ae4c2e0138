package bits_test

import (
	"bytes"
	"math"
	"strings"
	"testing"

	"zoetrope/api"
	"zoetrope/bits"
)

// sheet is a writer, beside the bits that it should have written.
type sheet struct {
	t *testing.T
	w *bits.Writer
	s string
}

func newSheet(t *testing.T) *sheet { return &sheet{t, bits.Write(), ""} }

// write writes v, and holds the bytes against those with these bits more.
func (p *sheet) write(k kind, v int64, more string) {
	p.t.Helper()
	p.s += more
	if e := k.write(p.w, v); e != api.OK || !bytes.Equal(p.w.Bytes(), pack(p.s)) {
		p.t.Errorf("%s %d of %d: %d, %x; want %x", k.name, k.n, v, e, p.w.Bytes(), pack(p.s))
	}
}

// refuse tries to write v, which is no number of that kind. The bit that follows shows whether the end has moved.
func (p *sheet) refuse(k kind, v int64) {
	p.t.Helper()
	if e := k.write(p.w, v); e != api.ErrArg || !bytes.Equal(p.w.Bytes(), pack(p.s)) {
		p.t.Errorf("%s %d of %d: %d, %x; want ErrArg, %x", k.name, k.n, v, e, p.w.Bytes(), pack(p.s))
	}
	p.write(fixed(1), 1, "1")
}

// P1.6: a writer that is none answers ErrNil, ahead of anything else.
func TestWriterNone(t *testing.T) {
	for i, w := range []*bits.Writer{nil, {}} {
		for _, k := range []kind{fixed(1), fixed(0), fixed(33), signed(1), signed(0), uvlc(), leb(), align()} {
			for _, v := range []int64{0, 1, math.MaxUint32} {
				if e := k.write(w, v); e != api.ErrNil {
					t.Errorf("%d: %s %d of %d: %d", i, k.name, k.n, v, e)
				}
			}
		}
		if len(w.Bytes()) != 0 {
			t.Errorf("%d: Bytes %x", i, w.Bytes())
		}
	}
}

// P1.6: a writer begins with nothing, and numbers of no bits leave it so.
func TestWriterOfNothing(t *testing.T) {
	p := newSheet(t)
	p.write(fixed(0), 0, "")
	p.write(align(), 0, "")
	if b := p.w.Bytes(); len(b) != 0 {
		t.Errorf("%x", b)
	}
	if e := bits.Write().Leb(0); e != api.OK {
		t.Errorf("Leb at the beginning: %d", e)
	}
}

// P1.6: fixed numbers of each size, behind each number of bits.
func TestWriteFixed(t *testing.T) {
	for from := range 9 {
		for n := range 33 {
			top := int64(1)<<n - 1
			for _, v := range []int64{0, top, top & 0xa53c81f7, (top + 1) / 2} {
				if v > top {
					continue // of no bits there is 0 alone
				}
				p := newSheet(t)
				p.write(fixed(from), 0, strings.Repeat("0", from))
				p.write(fixed(n), v, numeral(v, n))
				p.write(fixed(1), 1, "1")
			}
		}
	}
}

func TestWriteFixedWrong(t *testing.T) {
	p := newSheet(t)
	p.write(fixed(3), 5, "101")
	for n := range 32 {
		p.refuse(fixed(n), 1<<n)
		p.refuse(fixed(n), math.MaxUint32)
	}
	for _, n := range []int{-1, 33, 64, math.MaxInt, math.MinInt} {
		p.refuse(fixed(n), 0)
		p.refuse(fixed(n), 1)
	}
	p.write(fixed(32), math.MaxUint32, strings.Repeat("1", 32))
}

// P1.6: signed numbers of each size, behind each number of bits.
func TestWriteSigned(t *testing.T) {
	for from := range 9 {
		for n := 1; n <= 31; n++ {
			top := int64(1)<<n - 1
			for _, v := range []int64{0, 1, top, top & 0x253c81f7, (top + 1) / 2} {
				p := newSheet(t)
				p.write(fixed(from), 0, strings.Repeat("0", from))
				p.write(signed(n), v, "0"+numeral(v, n))
				if v > 0 {
					p.write(signed(n), -v, "1"+numeral(v, n))
				}
				p.write(fixed(1), 1, "1")
			}
		}
	}
}

func TestWriteSignedWrong(t *testing.T) {
	p := newSheet(t)
	for n := 1; n <= 30; n++ {
		p.refuse(signed(n), 1<<n)
		p.refuse(signed(n), -1<<n)
		p.refuse(signed(n), math.MaxInt32)
		p.refuse(signed(n), math.MinInt32)
	}
	p.refuse(signed(31), math.MinInt32)
	for _, n := range []int{0, -1, 32, 33, math.MaxInt, math.MinInt} {
		p.refuse(signed(n), 0)
		p.refuse(signed(n), -1)
	}
	p.write(signed(31), -math.MaxInt32, strings.Repeat("1", 32))
	p.write(signed(31), math.MaxInt32, "0"+strings.Repeat("1", 31))
}

// P1.6: uvlcs at both ends of each length, behind each number of bits.
func TestWriteUvlc(t *testing.T) {
	for from := range 9 {
		for k := range 32 {
			ahead := strings.Repeat("0", k) + "1"
			p := newSheet(t)
			p.write(fixed(from), 0, strings.Repeat("0", from))
			p.write(uvlc(), 1<<k-1, ahead+strings.Repeat("0", k))
			p.write(uvlc(), 2<<k-2, ahead+strings.Repeat("1", k))
			p.refuse(uvlc(), math.MaxUint32)
		}
	}
	p := newSheet(t)
	p.write(uvlc(), 1<<32-2, strings.Repeat("0", 31)+strings.Repeat("1", 32))
}

// P1.6: lebs in their fewest bytes, at a byte's beginning alone.
func TestWriteLeb(t *testing.T) {
	p := newSheet(t)
	for _, c := range []struct {
		v int64
		b string
	}{
		{0, "\x00"}, {1, "\x01"}, {127, "\x7f"}, {128, "\x80\x01"}, {300, "\xac\x02"},
		{1<<14 - 1, "\xff\x7f"}, {1 << 14, "\x80\x80\x01"},
		{1<<21 - 1, "\xff\xff\x7f"}, {1 << 21, "\x80\x80\x80\x01"},
		{1<<28 - 1, "\xff\xff\xff\x7f"}, {1 << 28, "\x80\x80\x80\x80\x01"},
		{math.MaxUint32, "\xff\xff\xff\xff\x0f"},
	} {
		p.write(leb(), c.v, unpack([]byte(c.b)))
	}
	for range 7 {
		p.write(fixed(1), 1, "1")
		if e := p.w.Leb(1); e != api.ErrArg || !bytes.Equal(p.w.Bytes(), pack(p.s)) {
			t.Errorf("Leb within a byte: %d, %x", e, p.w.Bytes())
		}
	}
	p.write(fixed(1), 1, "1")
	p.write(leb(), 5, "00000101")
}

// P1.6: Align fills with noughts up to the next byte's beginning, and not beyond it.
func TestWriteAlign(t *testing.T) {
	for n := range 17 {
		p := newSheet(t)
		p.write(fixed(n), 1<<n-1, strings.Repeat("1", n))
		p.write(align(), 0, strings.Repeat("0", (8-n%8)%8))
		p.write(align(), 0, "")
		p.write(fixed(1), 1, "1")
		p.write(align(), 0, "0000000")
		p.write(leb(), 3, "00000011")
	}
}

// P1.6: Bytes answers new memory each time, and the writer stays as it is.
func TestBytesIsNew(t *testing.T) {
	w := bits.Write()
	w.Fixed(0x123, 12)
	one, two := w.Bytes(), w.Bytes()
	clear(one)
	_ = append(one, 9, 9)
	if !bytes.Equal(two, []byte{0x12, 0x30}) {
		t.Errorf("two answers share memory: %x", two)
	}
	w.Fixed(0x45, 8)
	if !bytes.Equal(two, []byte{0x12, 0x30}) || !bytes.Equal(w.Bytes(), []byte{0x12, 0x34, 0x50}) {
		t.Errorf("%x, %x", two, w.Bytes())
	}
}

// Writers, and readers of the same bytes, know nothing of each other.
func TestObjectsAreApart(t *testing.T) {
	v, w := bits.Write(), bits.Write()
	v.Fixed(1, 1)
	w.Fixed(0, 3)
	v.Fixed(0xff, 8)
	if !bytes.Equal(v.Bytes(), []byte{0xff, 0x80}) || !bytes.Equal(w.Bytes(), []byte{0}) {
		t.Errorf("%x, %x", v.Bytes(), w.Bytes())
	}
	b := v.Bytes()
	r, q := bits.New(b), bits.New(b)
	r.Fixed(9)
	if r.Left() != 7 || q.Left() != 16 {
		t.Errorf("%d, %d", r.Left(), q.Left())
	}
}

// The chapter's examples of writers, row by row.
func TestWriterExamples(t *testing.T) {
	w := bits.Write()
	told := []api.Errno{w.Fixed(5, 3), w.Fixed(8, 3), w.Signed(-2, 2), w.Uvlc(0)}
	first := w.Bytes()
	told = append(told, w.Leb(1), w.Align(), w.Leb(300))
	for i, e := range []api.Errno{api.OK, api.ErrArg, api.OK, api.OK, api.ErrArg, api.OK, api.OK} {
		if told[i] != e {
			t.Errorf("row 6: %d: %d", i, told[i])
		}
	}
	if !bytes.Equal(first, []byte{0xba}) || !bytes.Equal(w.Bytes(), []byte{0xba, 0xac, 2}) {
		t.Errorf("row 6: %x, %x", first, w.Bytes())
	}

	w = bits.Write()
	told = []api.Errno{w.Uvlc(1<<32 - 2), w.Uvlc(1<<32 - 1), w.Signed(-1<<31, 31), w.Fixed(1<<32-1, 32)}
	for i, e := range []api.Errno{api.OK, api.ErrArg, api.ErrArg, api.OK} {
		if told[i] != e {
			t.Errorf("row 7: %d: %d", i, told[i])
		}
	}
}
