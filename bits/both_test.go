package bits_test

import (
	"strings"
	"testing"

	"zoetrope/api"
	"zoetrope/bits"
)

// item is a number of a kind.
type item struct {
	k kind
	v int64
}

// amount draws a number of at most n bits: as often a small one as a great one, and both ends.
func amount(d *draws, n int) int64 {
	top := int64(1)<<n - 1
	switch d.below(4) {
	case 0:
		return 0
	case 1:
		return top
	}
	return (int64(d.below(1<<16))<<16 | int64(d.below(1<<16))) & (int64(1)<<d.below(n+1) - 1)
}

// drawItem draws a number of any kind; a leb has an Align ahead of it.
func drawItem(d *draws) []item {
	switch d.below(5) {
	case 0:
		n := d.below(33)
		return []item{{fixed(n), amount(d, n)}}
	case 1:
		n := 1 + d.below(31)
		return []item{{signed(n), amount(d, n) * int64(1-2*d.below(2))}}
	case 2:
		return []item{{uvlc(), min(amount(d, 32), 1<<32-2)}}
	case 3:
		return []item{{align(), 0}, {leb(), amount(d, 32)}}
	}
	return []item{{align(), 0}}
}

// P1.7, W6: numbers of any kinds, one behind the other, are read as they were written; then only filling is left.
func TestWrittenIsRead(t *testing.T) {
	d := draws(1)
	for range 2000 {
		var items []item
		for range d.below(40) {
			items = append(items, drawItem(&d)...)
		}
		w := bits.Write()
		for _, x := range items {
			if e := x.k.write(w, x.v); e != api.OK {
				t.Fatalf("%s %d of %d: %d", x.k.name, x.k.n, x.v, e)
			}
		}
		r := bits.New(w.Bytes())
		for i, x := range items {
			if v, e := x.k.read(r); v != x.v || e != api.OK {
				t.Fatalf("%d: %s %d: %d, %d; want %d", i, x.k.name, x.k.n, v, e, x.v)
			}
		}
		if r.Left() > 7 {
			t.Fatalf("left: %d", r.Left())
		}
		if e := r.Align(); e != api.OK || r.Left() != 0 {
			t.Fatalf("filling: %d, %d", e, r.Left())
		}
	}
}

// rewrite reads by k behind the first from bits of s, writes what was read behind as many bits, and wants just the bits that were read.
func rewrite(t *testing.T, s string, from int, k kind) {
	t.Helper()
	r := bits.New(pack(s))
	w := bits.Write()
	for i := range from {
		v, _ := r.Fixed(1)
		if w.Fixed(v, 1) != api.OK || int64(v) != number(s[i:i+1]) {
			t.Fatalf("%s: bit %d: %d", s, i, v)
		}
	}
	a := ask(r, k)
	if a.e != api.OK {
		return
	}
	e := k.write(w, a.v)
	want := s[:from+a.used]
	if e != api.OK || string(w.Bytes()) != string(pack(want)) {
		t.Fatalf("%s: %s %d of %d behind %d bits: %d, %x; want %s", s, k.name, k.n, a.v, from, e, w.Bytes(), want)
	}
	w.Fixed(1, 1) // the end is where the reader stands
	if string(w.Bytes()) != string(pack(want+"1")) {
		t.Fatalf("%s: %s %d of %d behind %d bits: ends elsewhere: %x", s, k.name, k.n, a.v, from, w.Bytes())
	}
}

// P1.8: what is read of any bits is written as just these: all of two bytes.
func TestReadIsWritten(t *testing.T) {
	for x := range 1 << 16 {
		s := numeral(int64(x), 16)
		from := x % 8
		rewrite(t, s, from, uvlc())
		rewrite(t, s, 0, uvlc())
		rewrite(t, s, 0, leb())
		rewrite(t, s, from, align())
		rewrite(t, s, from, fixed(x%9))
		rewrite(t, s, from, signed(1+x%8))
	}
}

// P1.8: and of drawn bytes, which are long enough for the longest numbers.
func TestLongReadIsWritten(t *testing.T) {
	d := draws(2)
	for range 20000 {
		b := make([]byte, 9)
		for i := range b {
			b[i] = byte(d.below(256))
		}
		s := unpack(b)
		from := d.below(9)
		rewrite(t, s, from, fixed(d.below(33)))
		rewrite(t, s, from, signed(1+d.below(31)))
		k := d.below(32)
		rewrite(t, s[:from]+strings.Repeat("0", k)+"1"+s[from:], from, uvlc())
		for i := range d.below(5) {
			b[i] |= 0x80
		}
		b[4] &= byte(d.below(2)*0xf0 | 0x0f)
		rewrite(t, unpack(b), 0, leb())
		rewrite(t, unpack(b), 8, leb())
	}
}
