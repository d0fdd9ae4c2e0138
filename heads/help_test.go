package heads_test

import (
	"fmt"
	"math"
	mathbits "math/bits"
	"reflect"
	"slices"
	"strconv"
	"strings"
	"testing"

	"zoetrope/api"
	"zoetrope/bits"
	"zoetrope/heads"
)

// What is expected is worked out by none of the package's own calls. Bits are told as texts of 0 and 1; blanks between them count for nothing.

func seq(w, h int) api.Seq { return api.Seq{W: w, H: h} }

// little is the sequence of the chapter's examples: one square.
func little() api.Seq { return seq(64, 32) }

// great is one of four squares by four.
func great() api.Seq { return seq(256, 256) }

func existing(slot int) api.Head { return api.Head{Existing: true, Slot: slot} }

// key is a key frame that loses nothing.
func key() api.Head { return api.Head{Show: true, Key: true, Refresh: 255, Primary: -1} }

// inter is a frame that loses nothing, out of others.
func inter() api.Head {
	return api.Head{Refresh: 3, Refs: [3]int{1, 2, 7}, Primary: 4}
}

// lossy is a header of a frame that loses something, whose fields are as different as they may be.
func lossy(h api.Head) api.Head {
	h.Base, h.Deltas, h.NoAdapt = 9, [5]int{1, -2, 30, -31, 5}, true
	h.Levels, h.Sharp, h.Restore = [4]int{1, 2, 40, 63}, 5, [3]bool{true, false, true}
	return h
}

// strong is a header with Cdef and 2^n strengths beside.
func strong(h api.Head, n int) api.Head {
	h.Cdef, h.Damping, h.CdefBits, h.Strengths = true, 4, n, nil
	for i := range 1 << n {
		h.Strengths = append(h.Strengths, api.Strength{YPri: 15 - i, YSec: i % 4, UVPri: 2 * i, UVSec: 3 - i%4})
	}
	return h
}

// but is a header changed.
func but(h api.Head, change func(*api.Head)) api.Head {
	h.Strengths = slices.Clone(h.Strengths)
	change(&h)
	return h
}

// shapes are headers of every shape, each of which may be in the sequence great.
func shapes() []api.Head {
	l := []api.Head{existing(0), existing(7)}
	for _, h := range []api.Head{key(), inter(), but(inter(), func(h *api.Head) { h.Primary = -1 })} {
		l = append(l, h, lossy(h))
		for n := range 4 {
			l = append(l, strong(lossy(h), n))
		}
	}
	return l
}

// field is a number of a header.
type field struct {
	name string
	put  func(h *api.Head, v int)
}

// fields are all numbers that a header has; of the strengths as many as there are.
func fields(strengths int) []field {
	l := []field{
		{"Slot", func(h *api.Head, v int) { h.Slot = v }}, {"Refresh", func(h *api.Head, v int) { h.Refresh = v }},
		{"Primary", func(h *api.Head, v int) { h.Primary = v }}, {"Base", func(h *api.Head, v int) { h.Base = v }},
		{"Cols", func(h *api.Head, v int) { h.Cols = v }}, {"Rows", func(h *api.Head, v int) { h.Rows = v }},
		{"Sharp", func(h *api.Head, v int) { h.Sharp = v }}, {"Damping", func(h *api.Head, v int) { h.Damping = v }},
		{"CdefBits", func(h *api.Head, v int) { h.CdefBits = v }},
	}
	for i := range 3 {
		l = append(l, field{"Refs", func(h *api.Head, v int) { h.Refs[i] = v }})
	}
	for i := range 5 {
		l = append(l, field{"Deltas", func(h *api.Head, v int) { h.Deltas[i] = v }})
	}
	for i := range 4 {
		l = append(l, field{"Levels", func(h *api.Head, v int) { h.Levels[i] = v }})
	}
	for i := range strengths {
		l = append(l, field{"YPri", func(h *api.Head, v int) { h.Strengths[i].YPri = v }}, field{"YSec", func(h *api.Head, v int) { h.Strengths[i].YSec = v }},
			field{"UVPri", func(h *api.Head, v int) { h.Strengths[i].UVPri = v }}, field{"UVSec", func(h *api.Head, v int) { h.Strengths[i].UVSec = v }})
	}
	return l
}

// truths turn each truth of a header but Existing.
func truths() map[string]func(h *api.Head) {
	return map[string]func(h *api.Head){
		"Show": func(h *api.Head) { h.Show = !h.Show }, "Key": func(h *api.Head) { h.Key = !h.Key },
		"NoAdapt": func(h *api.Head) { h.NoAdapt = !h.NoAdapt }, "Cdef": func(h *api.Head) { h.Cdef = !h.Cdef },
		"Restore 0": func(h *api.Head) { h.Restore[0] = !h.Restore[0] }, "Restore 1": func(h *api.Head) { h.Restore[1] = !h.Restore[1] }, "Restore 2": func(h *api.Head) { h.Restore[2] = !h.Restore[2] },
	}
}

// far are numbers far away, some of whose lower bits look as if they might be right.
func far() []int {
	l := []int{math.MaxInt, math.MaxInt - 1, math.MinInt, math.MinInt + 1, math.MinInt + 4, math.MaxInt32, math.MaxInt32 - 3, math.MinInt32, math.MinInt32 + 5, 1 << 30, 1<<30 + 16, -1 << 30, -1<<30 + 1}
	for _, v := range []int{-1, 0, 1, 2, 3, 4, 16, 64, 256} {
		for at := 9; at < mathbits.UintSize; at++ {
			l = append(l, v+1<<at, v-1<<at)
		}
	}
	return l
}

// numbers are all that are near, and others far away.
func numbers() []int {
	var l []int
	for n := -300; n <= 600; n++ {
		l = append(l, n)
	}
	return append(l, far()...)
}

// draws is a row of numbers that look mixed and are always the same.
type draws uint64

func (d *draws) below(n int) int {
	*d = *d*6364136223846793005 + 1442695040888963407
	return int(uint64(*d) >> 33 % uint64(n))
}

func (d *draws) is(of int) bool { return d.below(of) == 0 }

// seq is any that may be.
func (d *draws) seq() api.Seq { return seq(16+2*d.below(121), 16+2*d.below(121)) }

// text is n bits.
func (d *draws) text(n int) string {
	b := make([]byte, n)
	for i := range b {
		b[i] = byte('0' + d.below(2))
	}
	return string(b)
}

// head is any that may be.
func (d *draws) head(s api.Seq) api.Head {
	if d.is(10) {
		return existing(d.below(8))
	}
	h := api.Head{Show: d.is(2), Key: d.is(3), Refresh: d.below(256), Primary: -1, NoAdapt: d.is(2), Cols: d.below(mostCut(s.W) + 1), Rows: d.below(mostCut(s.H) + 1)}
	if !h.Key {
		h.Refs, h.Primary = [3]int{d.below(8), d.below(8), d.below(8)}, d.below(9)-1
	}
	if d.is(4) {
		return h
	}
	h.Base = d.below(256)
	for i := range h.Deltas {
		if d.is(2) {
			h.Deltas[i] = d.below(63) - 31
		}
	}
	if h.Base == 0 && slices.Equal(h.Deltas[:], make([]int, 5)) {
		return h
	}
	for i := range h.Levels {
		h.Levels[i] = d.below(64)
	}
	h.Sharp, h.Restore = d.below(8), [3]bool{d.is(2), d.is(2), d.is(2)}
	if d.is(2) {
		h.Cdef, h.Damping, h.CdefBits = true, 3+d.below(4), d.below(4)
		for range []int{1, 2, 4, 8}[h.CdefBits] {
			h.Strengths = append(h.Strengths, api.Strength{YPri: d.below(16), YSec: d.below(4), UVPri: d.below(16), UVSec: d.below(4)})
		}
	}
	return h
}

// mostCut is how great Cols or Rows may be.
func mostCut(side int) int {
	switch {
	case side <= 64:
		return 0
	case side <= 192: // of three squares one half has two
		return 1
	}
	return 2
}

// closed is a text without its blanks.
func closed(s string) string { return strings.ReplaceAll(s, " ", "") }

// pack is the bytes of some bits, the last one filled with noughts.
func pack(s string) []byte {
	var b []byte
	for part := range slices.Chunk([]byte(s), 8) {
		v, _ := strconv.ParseUint((string(part) + "0000000")[:8], 2, 8)
		b = append(b, byte(v))
	}
	return b
}

// unpack is the bits of some bytes.
func unpack(b []byte) string {
	s := ""
	for _, v := range b {
		s += fmt.Sprintf("%08b", v)
	}
	return s
}

// standing is a reader that has just these bits left.
func standing(s string) *bits.Reader {
	ahead := strings.Repeat("1", (8-len(s)%8)%8)
	r := bits.New(pack(ahead + s))
	r.Fixed(len(ahead))
	return r
}

// begun is a writer that has these bits.
func begun(s string) *bits.Writer {
	w := bits.Write()
	for _, c := range s {
		w.Fixed(uint32(c-'0'), 1)
	}
	return w
}

// has asks for just these bits of a writer, whose end a bit 1 shows.
func has(t *testing.T, what string, w *bits.Writer, want string) {
	t.Helper()
	if e := w.Fixed(1, 1); e != api.OK || !slices.Equal(w.Bytes(), pack(want+"1")) {
		t.Fatalf("%s: bits %s, %d; want %s and a 1", what, unpack(w.Bytes()), e, want)
	}
}

// same tells whether headers are: lists without strengths may be nil or not.
func same(a, b api.Head) bool {
	if len(a.Strengths) == 0 && len(b.Strengths) == 0 {
		a.Strengths, b.Strengths = nil, nil
	}
	return reflect.DeepEqual(a, b)
}

// checkIs asks for an error of Check.
func checkIs(t *testing.T, what string, h api.Head, s api.Seq, want api.Errno) {
	t.Helper()
	if e := heads.Check(h, s); e != want {
		t.Fatalf("%s: Check(%+v, %v): %d; want %d", what, h, s, e, want)
	}
}

// writeIs asks for just these bits of a header that may be, behind others.
func writeIs(t *testing.T, ahead string, h api.Head, s api.Seq, want string) {
	t.Helper()
	w := begun(ahead)
	if e := heads.Write(w, h, s); e != api.OK {
		t.Fatalf("Write(%+v, %v): %d", h, s, e)
	}
	has(t, fmt.Sprintf("Write(%+v, %v) behind %s", h, s, ahead), w, ahead+want)
}

// noWrite asks for an error, and for nothing written.
func noWrite(t *testing.T, ahead string, h api.Head, s api.Seq, want api.Errno) {
	t.Helper()
	w := begun(ahead)
	if e := heads.Write(w, h, s); e != want {
		t.Fatalf("Write(%+v, %v): %d; want %d", h, s, e, want)
	}
	has(t, fmt.Sprintf("Write(%+v, %v) behind %s", h, s, ahead), w, ahead)
}

// readIs asks for a header or an error, and for so many bits read of these.
func readIs(t *testing.T, text string, s api.Seq, want api.Head, e api.Errno, used int) {
	t.Helper()
	r := standing(text)
	h, f := heads.Read(r, s)
	if !same(h, want) || f != e || r.Left() != len(text)-used {
		t.Fatalf("Read of %s in %v: %+v, %d, %d of %d bits left; want %+v, %d, %d", text, s, h, f, r.Left(), len(text), want, e, len(text)-used)
	}
}

// noRead asks for an error, and for so many bits read of these.
func noRead(t *testing.T, text string, s api.Seq, e api.Errno, used int) {
	t.Helper()
	readIs(t, text, s, api.Head{}, e, used)
}
