package bits_test

import (
	"slices"
	"strings"
	"testing"

	"zoetrope/api"
	"zoetrope/bits"
)

// Bits are told in these tests as texts of 0 and 1, so that what is expected is not worked out by the shifts that are tested.

// pack is the bytes of some bits, the last one filled with noughts.
func pack(s string) []byte {
	s += strings.Repeat("0", (8-len(s)%8)%8)
	b := make([]byte, len(s)/8)
	for i := range b {
		b[i] = byte(number(s[8*i : 8*i+8]))
	}
	return b
}

// unpack is the bits of some bytes.
func unpack(b []byte) string {
	var s strings.Builder
	for _, x := range b {
		for _, m := range []byte{128, 64, 32, 16, 8, 4, 2, 1} {
			if x&m != 0 {
				s.WriteByte('1')
			} else {
				s.WriteByte('0')
			}
		}
	}
	return s.String()
}

// number is what bits say, the highest one first.
func number(s string) int64 {
	var v int64
	for _, c := range s {
		v = 2*v + int64(c-'0')
	}
	return v
}

// numeral is a number's n bits.
func numeral(v int64, n int) string {
	b := make([]byte, n)
	for i := n - 1; i >= 0; i-- {
		b[i] = byte('0' + v%2)
		v /= 2
	}
	return string(b)
}

// standing is a reader that has just these bits left.
func standing(s string) *bits.Reader {
	ahead := strings.Repeat("1", (8-len(s)%8)%8)
	r := bits.New(pack(ahead + s))
	r.Fixed(len(ahead))
	return r
}

// answer is what a call of a reader told, and how many bits it has gone on by.
type answer struct {
	v    int64
	e    api.Errno
	used int
}

func fail(e api.Errno) answer { return answer{e: e} }

func well(v int64, used int) answer { return answer{v: v, used: used} }

// numbers of all kinds are read and written through a kind, so that a test may go through them alike.
type kind struct {
	name  string
	n     int
	read  func(r *bits.Reader) (int64, api.Errno)
	write func(w *bits.Writer, v int64) api.Errno
}

func fixed(n int) kind {
	return kind{"fixed", n, func(r *bits.Reader) (int64, api.Errno) {
		v, e := r.Fixed(n)
		return int64(v), e
	}, func(w *bits.Writer, v int64) api.Errno { return w.Fixed(uint32(v), n) }}
}

func signed(n int) kind {
	return kind{"signed", n, func(r *bits.Reader) (int64, api.Errno) {
		v, e := r.Signed(n)
		return int64(v), e
	}, func(w *bits.Writer, v int64) api.Errno { return w.Signed(int32(v), n) }}
}

func uvlc() kind {
	return kind{"uvlc", 0, func(r *bits.Reader) (int64, api.Errno) {
		v, e := r.Uvlc()
		return int64(v), e
	}, func(w *bits.Writer, v int64) api.Errno { return w.Uvlc(uint32(v)) }}
}

func leb() kind {
	return kind{"leb", 0, func(r *bits.Reader) (int64, api.Errno) {
		v, e := r.Leb()
		return int64(v), e
	}, func(w *bits.Writer, v int64) api.Errno { return w.Leb(uint32(v)) }}
}

func align() kind {
	return kind{"align", 0, func(r *bits.Reader) (int64, api.Errno) {
		return 0, r.Align()
	}, func(w *bits.Writer, v int64) api.Errno { return w.Align() }}
}

// ask calls, and tells how far the reader has gone on.
func ask(r *bits.Reader, k kind) answer {
	left := r.Left()
	v, e := k.read(r)
	return answer{v, e, left - r.Left()}
}

// expect asks, and holds the answer against the one that is wanted; so does it with the bytes that are left.
func expect(t *testing.T, what string, r *bits.Reader, k kind, want answer) {
	t.Helper()
	rest := r.Rest()
	if got := ask(r, k); got != want {
		t.Errorf("%s: %s %d: got %+v, want %+v", what, k.name, k.n, got, want)
	}
	if want.e != api.OK && !slices.Equal(rest, r.Rest()) {
		t.Errorf("%s: %s %d: the bytes that are left have changed", what, k.name, k.n)
	}
}

// draws is a row of numbers that look mixed and are always the same.
type draws uint64

func (d *draws) below(n int) int {
	*d = *d*6364136223846793005 + 1442695040888963407
	return int(uint64(*d) >> 33 % uint64(n))
}
