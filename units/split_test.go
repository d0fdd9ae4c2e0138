package units_test

import (
	"slices"
	"testing"

	"zoetrope/api"
)

// The chapter's rows (P19.1).
func TestSplitOfExamples(t *testing.T) {
	whole(t, []byte{0x20, 0, 0x30, 2, 0xaa, 0xbb}, unit(), frame(0xaa, 0xbb))
	splitIs(t, []byte{0x20, 0, 0x30, 2, 0xaa}, 2, api.ErrTrunc, unit())
	splitIs(t, []byte{0x20, 0, 0x21, 0}, 2, api.ErrSyntax, unit())
	splitIs(t, []byte{0x20}, 0, api.ErrTrunc)
	splitIs(t, nil, 0, api.OK)
	splitIs(t, []byte{}, 0, api.OK)
	splitIs(t, []byte{0x40, 0}, 0, api.ErrSyntax)
	splitIs(t, []byte{0x10, 0x80, 0}, 0, api.ErrSyntax)
	splitIs(t, []byte{0x10, 0x81, 0x80, 0x80, 8}, 0, api.ErrLimit)
	splitIs(t, []byte{0x10, 0x80, 0x80, 0x80, 8}, 0, api.ErrTrunc)
}

// One piece of each type, and many of all (P19.1).
func TestSplitByHand(t *testing.T) {
	for _, x := range rows() {
		whole(t, x.b, x.l...)
	}
}

// Of all bytes three begin a piece, whatever stands behind, ahead of whatever, first or not (P19.1).
func TestFirstBytes(t *testing.T) {
	ahead := [][]api.Obu{nil, {unit()}, {seq(16, 0), frame(1, 2, 3)}}
	for _, before := range ahead {
		b := stream(before...)
		for first := range 256 {
			kind := map[int]int{16: 1, 32: 2, 48: 3}[first]
			for _, behind := range [][]byte{{0}, {2, 5, 6}, {1, 16, 32, 0}} {
				all := slices.Concat(b, []byte{byte(first)}, behind)
				if kind == 0 {
					splitIs(t, all, len(b), api.ErrSyntax, before...)
					continue
				}
				n := int(behind[0])
				l := append(slices.Clone(before), api.Obu{Type: kind, Body: behind[1 : 1+n]})
				if n == 1 {
					l = append(l, unit())
				}
				whole(t, all, l...)
			}
			e := api.ErrTrunc
			if kind == 0 {
				e = api.ErrSyntax
			}
			splitIs(t, append(slices.Clone(b), byte(first)), len(b), e, before...)
		}
	}
}

// Bodies of as many bytes as are at the edges of how that is said, of each type, alone and between others (P19.1).
func TestBodies(t *testing.T) {
	for _, x := range rowsOfSizes(191) {
		whole(t, x.b, x.l...)
	}
}

// Bodies of as many bytes as they may have, and of one more, which are there (P19.1).
func TestGreatestBody(t *testing.T) {
	b := make([]byte, 5+most+1)
	b[5], b[5+most-2], b[5+most-1], b[5+most] = 1, 2, 3, 4
	copy(b, []byte{48, 128, 128, 128, 8})
	splitIs(t, b, 5+most, api.ErrSyntax, frame(b[5:5+most]...))
	splitIs(t, b[:5+most], 5+most, api.OK, frame(b[5:5+most]...))
	splitIs(t, b[:5+most-1], 0, api.ErrTrunc)
	copy(b, []byte{48, 255, 255, 255, 7})
	b[5+most-1] = 0
	splitIs(t, b, 5+most-1, api.ErrSyntax, frame(b[5:5+most-1]...))
	copy(b, []byte{48, 129, 128, 128, 8})
	splitIs(t, b, 0, api.ErrLimit)
	splitIs(t, b[:5+most], 0, api.ErrLimit)
}

// Sizes beyond what a body may have, up to the greatest number that can be said, whatever stands behind (P19.1).
func TestSizesBeyond(t *testing.T) {
	beyond := [][]byte{
		{129, 128, 128, 8}, {130, 128, 128, 8}, {255, 128, 128, 8}, {128, 129, 128, 8}, {128, 128, 129, 8}, {128, 128, 128, 9}, {128, 128, 128, 16}, {255, 255, 255, 127}, // 2^24 + 1 to 2^28 - 1
		{128, 128, 128, 128, 1}, {129, 128, 128, 128, 1}, {255, 255, 255, 255, 1}, {128, 128, 128, 128, 2}, // from 2^28 on
		{254, 255, 255, 255, 7}, {255, 255, 255, 255, 7}, {128, 128, 128, 128, 8}, {129, 128, 128, 128, 8}, {130, 128, 128, 128, 8}, {128, 128, 128, 136, 8}, // about 2^31, where some numbers turn below 0
		{255, 255, 255, 255, 15}, {254, 255, 255, 255, 15}, {128, 128, 128, 248, 15}, {128, 128, 128, 128, 15}, // up to 2^32 - 1
	}
	for _, how := range beyond {
		for _, before := range [][]api.Obu{nil, {unit(), frame(1)}} {
			b := slices.Concat(stream(before...), []byte{48}, how)
			at := len(stream(before...))
			splitIs(t, b, at, api.ErrLimit, before...)
			splitIs(t, append(b, make([]byte, 300)...), at, api.ErrLimit, before...)
			splitIs(t, append(b, stream(unit(), seq(1))...), at, api.ErrLimit, before...)
		}
	}
}

// Sizes that can't be said: in more bytes than they take, and beyond 32 bits (P19.1).
func TestSizesThatAreNone(t *testing.T) {
	none := [][]byte{
		{128, 0}, {129, 0}, {255, 0}, {128, 128, 0}, {129, 128, 0}, {200, 129, 0}, {128, 128, 128, 0}, {255, 255, 255, 0}, {128, 128, 128, 128, 0}, {255, 255, 255, 255, 0},
		{128, 128, 128, 128, 16}, {129, 128, 128, 128, 16}, {255, 255, 255, 255, 16}, {255, 255, 255, 255, 31}, {128, 128, 128, 128, 32}, {128, 128, 128, 128, 127},
		{128, 128, 128, 128, 128}, {128, 128, 128, 128, 129}, {129, 128, 128, 128, 129}, {255, 255, 255, 255, 255}, {128, 128, 128, 128, 143},
	}
	for _, how := range none {
		for _, before := range [][]api.Obu{nil, {frame(), seq(7)}} {
			at := len(stream(before...))
			for _, kind := range types() {
				b := slices.Concat(stream(before...), []byte{byte(16 * kind)}, how)
				splitIs(t, b, at, api.ErrSyntax, before...)
				splitIs(t, append(b, make([]byte, 300)...), at, api.ErrSyntax, before...)
				splitIs(t, append(b, 1, 0, 0, 0), at, api.ErrSyntax, before...)
			}
		}
	}
}

// A size that is cut off at each of its bytes (P19.1).
func TestSizesCutOff(t *testing.T) {
	l := [][]byte{{5}, {128, 1}, {255, 127}, {128, 128, 1}, {255, 255, 127}, {128, 128, 128, 8}, {129, 128, 128, 8}, {255, 255, 255, 127}, {255, 255, 255, 255, 15}, {255, 255, 255, 255, 255}, {128, 128, 128, 128, 0}}
	for _, how := range l {
		for _, before := range [][]api.Obu{nil, {seq(1), unit()}, {frame(d200()...)}} {
			at := len(stream(before...))
			for _, kind := range types() {
				for n := range how {
					splitIs(t, slices.Concat(stream(before...), []byte{byte(16 * kind)}, how[:n]), at, api.ErrTrunc, before...)
				}
			}
		}
	}
}

// d200 is 200 mixed bytes.
func d200() []byte {
	d := draws(200)
	return d.body(200)
}

// A body that is cut off at each of its bytes (P19.1).
func TestBodiesCutOff(t *testing.T) {
	for _, n := range []int{1, 2, 5, 127, 128, 200, 300} {
		d := draws(n)
		for _, before := range [][]api.Obu{nil, {unit()}, {seq(1, 2), frame()}} {
			o := api.Obu{Type: d.one(1, 2, 3), Body: d.body(n)}
			b := append(stream(before...), written(o)...)
			for lost := 1; lost <= n; lost++ {
				splitIs(t, b[:len(b)-lost], len(stream(before...)), api.ErrTrunc, before...)
			}
			whole(t, b, append(slices.Clone(before), o)...)
		}
	}
	for _, n := range []int{16383, 16384, 70000} {
		b := written(frame(make([]byte, n)...))
		for _, end := range []int{len(b) - 1, len(b) - 2, n, n / 2, len(b) - n + 1, len(b) - n} {
			splitIs(t, b[:end], 0, api.ErrTrunc)
		}
	}
}

// fault is what can't be read as a piece.
type fault struct {
	b []byte
	e api.Errno
}

// faults are some of each kind; those that end too early are so only at the end.
func faults() (anywhere, last []fault) {
	anywhere = []fault{
		{[]byte{0}, api.ErrSyntax}, {[]byte{0, 0}, api.ErrSyntax}, {[]byte{17, 0}, api.ErrSyntax}, {[]byte{64, 1, 2}, api.ErrSyntax}, {[]byte{160, 0}, api.ErrSyntax}, {[]byte{255}, api.ErrSyntax},
		{[]byte{48, 128, 0}, api.ErrSyntax}, {[]byte{16, 255, 255, 255, 255, 16}, api.ErrSyntax},
		{[]byte{16, 129, 128, 128, 8}, api.ErrLimit}, {[]byte{48, 255, 255, 255, 255, 15}, api.ErrLimit},
	}
	last = []fault{
		{[]byte{16}, api.ErrTrunc}, {[]byte{48, 128}, api.ErrTrunc}, {[]byte{32, 255, 255, 255, 255}, api.ErrTrunc}, {[]byte{48, 1}, api.ErrTrunc}, {[]byte{48, 3, 16, 0}, api.ErrTrunc}, {[]byte{16, 128, 128, 128, 8, 32, 0}, api.ErrTrunc},
	}
	return anywhere, last
}

// A fault in the first piece, in the last one, and in each between: the pieces ahead of it, its place and its error are told (P19.1).
func TestFaultsAnywhere(t *testing.T) {
	d := draws(192)
	anywhere, last := faults()
	for _, f := range append(slices.Clone(anywhere), last...) {
		splitIs(t, f.b, 0, f.e)
		for _, n := range []int{1, 2, 7} {
			l := d.pieces(n)
			splitIs(t, append(stream(l...), f.b...), len(stream(l...)), f.e, l...)
		}
	}
	for _, f := range anywhere {
		for range 30 {
			l := d.pieces(1 + d.below(8))
			for i := range l {
				ahead := stream(l[:i]...)
				splitIs(t, slices.Concat(ahead, f.b, stream(l[i:]...)), len(ahead), f.e, l[:i]...)
			}
		}
	}
	for _, f := range anywhere { // the first one of two counts
		for _, g := range append(slices.Clone(anywhere), last...) {
			splitIs(t, slices.Concat(f.b, stream(unit()), g.b), 0, f.e)
			splitIs(t, slices.Concat(stream(unit()), f.b, g.b), 2, f.e, unit())
		}
	}
}

// Of what is wrong with one piece the first thing counts: its first byte, its size, the limit, how many bytes are left (P19.1).
func TestOrderWithinPiece(t *testing.T) {
	for _, before := range [][]api.Obu{nil, {unit(), frame(4)}} {
		at := len(stream(before...))
		for _, x := range []fault{
			{[]byte{15}, api.ErrSyntax},                            // first byte, and no size
			{[]byte{49, 128}, api.ErrSyntax},                       // first byte, and a size that is cut off
			{[]byte{80, 129, 128, 128, 8}, api.ErrSyntax},          // first byte, and the limit
			{[]byte{31, 5, 1}, api.ErrSyntax},                      // first byte, and too few bytes
			{[]byte{48, 255, 255, 255, 255, 31}, api.ErrSyntax},    // a size that is none, and beyond the limit
			{[]byte{48, 133, 0}, api.ErrSyntax},                    // a size that is none, and too few bytes
			{[]byte{48, 133, 0, 1, 2, 3, 4, 5, 6}, api.ErrSyntax},  // and enough
			{[]byte{48, 255, 255, 255, 255}, api.ErrTrunc},         // a size that is cut off, and beyond the limit
			{[]byte{48, 133}, api.ErrTrunc},                        // a size that is cut off
			{[]byte{48, 129, 128, 128, 8, 1, 2, 3}, api.ErrLimit},  // the limit, and too few bytes
			{[]byte{48, 128, 128, 128, 8, 1, 2, 3}, api.ErrTrunc},  // too few bytes alone
			{[]byte{48, 128, 128, 128, 8, 64, 0, 0}, api.ErrTrunc}, // and what is there looks wrong
		} {
			splitIs(t, append(stream(before...), x.b...), at, x.e, before...)
		}
	}
}
