package heads_test

import (
	"fmt"
	"slices"
	"strconv"

	"zoetrope/api"
)

func modelSide(n int) bool {
	return slices.Contains([]int{16, 256}, n) || n > 16 && n < 256 && n&1 == 0
}

func modelSeq(s api.Seq) bool { return modelSide(s.W) && modelSide(s.H) }

// told tells whether a number is one of those up to the greatest one.
func told(least, most int, l ...int) bool {
	return !slices.ContainsFunc(l, func(v int) bool { return v < least || v > most })
}

// modelMay tells whether a header may be, by the chapter's words: of each kind of frames what must be zero is held against a header that has only the rest.
func modelMay(h api.Head, s api.Seq) bool {
	if !modelSeq(s) {
		return false
	}
	if h.Existing {
		return told(0, 7, h.Slot) && same(h, existing(h.Slot))
	}
	rest := api.Head{Show: h.Show, Key: h.Key, Refresh: h.Refresh, Primary: -1, Base: h.Base, Deltas: h.Deltas, Cols: h.Cols, Rows: h.Rows, NoAdapt: h.NoAdapt}
	may := told(0, 255, h.Refresh, h.Base) && told(-31, 31, h.Deltas[:]...) && told(0, mostCut(s.W), h.Cols) && told(0, mostCut(s.H), h.Rows)
	if !h.Key {
		rest.Refs, rest.Primary = h.Refs, h.Primary
		may = may && told(0, 7, h.Refs[:]...) && told(-1, 7, h.Primary)
	}
	if !told(0, 0, append(h.Deltas[:], h.Base)...) {
		rest.Levels, rest.Sharp, rest.Restore, rest.Cdef = h.Levels, h.Sharp, h.Restore, h.Cdef
		may = may && told(0, 63, h.Levels[:]...) && told(0, 7, h.Sharp)
		if h.Cdef {
			rest.Damping, rest.CdefBits, rest.Strengths = h.Damping, h.CdefBits, h.Strengths
			may = may && told(3, 6, h.Damping) && map[[2]int]bool{{0, 1}: true, {1, 2}: true, {2, 4}: true, {3, 8}: true}[[2]int{h.CdefBits, len(h.Strengths)}]
			for _, x := range h.Strengths {
				may = may && told(0, 15, x.YPri, x.UVPri) && told(0, 3, x.YSec, x.UVSec)
			}
		}
	}
	return may && same(h, rest)
}

// numeral is a number's n bits.
func numeral(n, v int) string { return fmt.Sprintf("%0*b", n, v) }

// truth is a bit.
func truth(v bool) string { return map[bool]string{false: "0", true: "1"}[v] }

// modelText is the bits of a header that may be.
func modelText(h api.Head) string {
	if h.Existing {
		return "1" + numeral(3, h.Slot)
	}
	s := "0" + truth(h.Show) + truth(h.Key) + numeral(8, h.Refresh)
	if !h.Key {
		for _, slot := range h.Refs {
			s += numeral(3, slot)
		}
		if h.Primary < 0 {
			s += "0"
		} else {
			s += numeral(4, 8+h.Primary) // the bit 1 ahead counts 8
		}
	}
	s += numeral(8, h.Base)
	loses := h.Base > 0
	for _, d := range h.Deltas {
		switch {
		case d > 0:
			s += "10" + numeral(5, d)
		case d < 0:
			s += "11" + numeral(5, -d)
		default:
			s += "0"
		}
		loses = loses || d != 0
	}
	s += numeral(2, h.Cols) + numeral(2, h.Rows) + truth(h.NoAdapt)
	if loses {
		s += modelFilters(h)
	}
	return s
}

func modelFilters(h api.Head) string {
	s := ""
	for _, level := range h.Levels {
		s += numeral(6, level)
	}
	s += numeral(3, h.Sharp) + truth(h.Cdef)
	if h.Cdef {
		s += numeral(2, h.Damping-3) + numeral(2, h.CdefBits)
	}
	for _, x := range h.Strengths {
		s += numeral(4, x.YPri) + numeral(2, x.YSec) + numeral(4, x.UVPri) + numeral(2, x.UVSec)
	}
	for _, on := range h.Restore {
		s += truth(on)
	}
	return s
}

// reel is a text that is read; what is wrong with it is thrown.
type reel struct {
	text string
	at   int
}

func (x *reel) next(n int) string {
	if len(x.text)-x.at < n {
		panic(api.ErrTrunc)
	}
	return x.text[x.at : x.at+n]
}

func (x *reel) number(n int) int {
	v, _ := strconv.ParseInt("0"+x.next(n), 2, 64)
	x.at += n
	return int(v)
}

func (x *reel) truth() bool { return x.number(1) == 1 }

// delta reads a number that is told not to be 0.
func (x *reel) delta() int {
	if x.next(6) == "100000" {
		panic(api.ErrSyntax)
	}
	below, v := x.truth(), x.number(5)
	if v == 0 {
		panic(api.ErrSyntax)
	}
	if below {
		return -v
	}
	return v
}

// cut reads Cols or Rows.
func (x *reel) cut(side int) int {
	n := x.number(2)
	if n > mostCut(side) {
		panic(api.ErrLimit)
	}
	return n
}

// modelRead is a header that is read of a text, or the error, and how many bits were read.
func modelRead(text string, s api.Seq) (h api.Head, e api.Errno, used int) {
	x := &reel{text: text}
	defer func() {
		if e, _ = recover().(api.Errno); e != api.OK {
			h = api.Head{}
		}
		used = x.at
	}()
	if x.truth() {
		h = existing(x.number(3))
		return
	}
	h.Show, h.Key = x.truth(), x.truth()
	h.Refresh, h.Primary = x.number(8), -1
	if !h.Key {
		h.Refs = [3]int{x.number(3), x.number(3), x.number(3)}
		if x.truth() {
			h.Primary = x.number(3)
		}
	}
	h.Base = x.number(8)
	loses := h.Base > 0
	for i := range h.Deltas {
		if x.truth() {
			h.Deltas[i] = x.delta()
			loses = true
		}
	}
	h.Cols = x.cut(s.W)
	h.Rows = x.cut(s.H)
	h.NoAdapt = x.truth()
	if loses {
		modelReadFilters(x, &h)
	}
	return
}

func modelReadFilters(x *reel, h *api.Head) {
	h.Levels = [4]int{x.number(6), x.number(6), x.number(6), x.number(6)}
	h.Sharp, h.Cdef = x.number(3), x.truth()
	if h.Cdef {
		h.Damping, h.CdefBits = 3+x.number(2), x.number(2)
		for range []int{1, 2, 4, 8}[h.CdefBits] {
			h.Strengths = append(h.Strengths, api.Strength{YPri: x.number(4), YSec: x.number(2), UVPri: x.number(4), UVSec: x.number(2)})
		}
	}
	h.Restore = [3]bool{x.truth(), x.truth(), x.truth()}
}
