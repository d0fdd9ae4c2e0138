package heads_test

import (
	"slices"
	"testing"

	"zoetrope/api"
	"zoetrope/heads"
)

// ends are what a field may be: in a key frame, in one that loses nothing, in one without Cdef it may be one number alone.
type ends struct{ least, most, key, lossless, plain int }

// every is for fields that are the same in all frames but those that show a slot.
func every(least, most int) ends {
	return ends{least: least, most: most, key: loose, lossless: loose, plain: loose}
}

const loose = 1000 // no one number alone

// endsOf are the ends of a header's fields in the sequence great; CdefBits hang on how many strengths there are.
func endsOf(name string, strengths int) ends {
	switch name {
	case "Slot":
		return every(0, 0)
	case "Refresh":
		return every(0, 255)
	case "Refs":
		return ends{0, 7, 0, loose, loose}
	case "Primary":
		return ends{-1, 7, -1, loose, loose}
	case "Cols", "Rows":
		return every(0, 2)
	case "Levels":
		return ends{0, 63, loose, 0, loose}
	case "Sharp":
		return ends{0, 7, loose, 0, loose}
	case "Damping":
		return ends{3, 6, loose, 0, 0}
	case "CdefBits":
		n := slices.Index([]int{1, 2, 4, 8}, strengths)
		return ends{n, n, loose, 0, 0}
	case "YPri", "UVPri":
		return every(0, 15)
	case "YSec", "UVSec":
		return every(0, 3)
	}
	panic(name)
}

// may tells whether a field may be a number in a header.
func (x ends) may(v int, h api.Head, lossless bool) bool {
	for _, only := range []struct {
		holds bool
		v     int
	}{{h.Key, x.key}, {lossless, x.lossless}, {!h.Cdef, x.plain}} {
		if only.holds && only.v != loose {
			return v == only.v
		}
	}
	return v >= x.least && v <= x.most
}

// eachIs puts each number into each field but Base and Deltas of a header that may be, in turn.
func eachIs(t *testing.T, h api.Head, lossless bool) {
	t.Helper()
	checkIs(t, "as it is", h, great(), api.OK)
	for _, f := range fields(len(h.Strengths)) {
		if f.name == "Base" || f.name == "Deltas" {
			continue
		}
		x := endsOf(f.name, len(h.Strengths))
		for _, v := range numbers() {
			want := api.ErrArg
			if x.may(v, h, lossless) {
				want = api.OK
			}
			checkIs(t, f.name, but(h, func(h *api.Head) { f.put(h, v) }), great(), want)
		}
	}
}

// Each field at its ends, beyond them and far away, in key frames and others, that lose something or not, with Cdef and without (P20.2).
func TestCheckEachField(t *testing.T) {
	for _, h := range []api.Head{key(), inter()} {
		eachIs(t, h, true)
		eachIs(t, lossy(h), false)
		for n := range 4 {
			eachIs(t, strong(lossy(h), n), false)
		}
	}
}

// Base and the Deltas: alone each of them makes a frame that loses something; with filters one of them must not be 0 (P20.2).
func TestCheckSteps(t *testing.T) {
	for _, f := range fields(0) {
		most := map[string]int{"Base": 255, "Deltas": 31}[f.name]
		least := map[string]int{"Deltas": -31}[f.name]
		if most == 0 {
			continue
		}
		for _, v := range numbers() {
			may, filtered := api.ErrArg, api.ErrArg
			if v >= least && v <= most {
				may = api.OK
			}
			if v != 0 {
				filtered = may
			}
			for _, h := range []api.Head{key(), inter()} {
				put := func(h *api.Head) { f.put(h, v) }
				checkIs(t, f.name+" alone", but(h, put), great(), may)
				checkIs(t, f.name+" among others", but(strong(lossy(h), 1), put), great(), may)
				bare := strong(lossy(h), 1)
				bare.Base, bare.Deltas = 0, [5]int{}
				checkIs(t, f.name+" with filters", but(bare, put), great(), filtered)
			}
		}
	}
}

// A frame that loses nothing has no filter at all; one without Cdef nothing of it (P20.2).
func TestCheckWhatMustBeZero(t *testing.T) {
	puts := map[string]func(h *api.Head){
		"a strength": func(h *api.Head) { h.Strengths = make([]api.Strength, 1) },
		"strengths":  func(h *api.Head) { h.CdefBits, h.Strengths = 1, make([]api.Strength, 2) },
		"damping":    func(h *api.Head) { h.Damping = 3 },
		"all but it": func(h *api.Head) { h.Damping, h.Strengths = 3, make([]api.Strength, 1) },
	}
	for name, put := range puts {
		for _, h := range []api.Head{key(), inter(), lossy(key()), lossy(inter())} {
			checkIs(t, name, but(h, put), great(), api.ErrArg)
		}
	}
	for name, turn := range truths() {
		if name == "Key" { // what hangs on it are slots
			continue
		}
		for _, h := range []api.Head{key(), inter()} {
			want := api.ErrArg
			if name == "Show" || name == "NoAdapt" {
				want = api.OK
			}
			checkIs(t, name, but(h, turn), great(), want)
			if name != "Cdef" {
				checkIs(t, name, but(lossy(h), turn), great(), api.OK)
				checkIs(t, name, but(strong(lossy(h), 0), turn), great(), api.OK)
			}
		}
	}
	for _, h := range []api.Head{key(), inter()} {
		checkIs(t, "Cdef of nothing", but(h, func(h *api.Head) { h.Cdef, h.Damping, h.Strengths = true, 3, make([]api.Strength, 1) }), great(), api.ErrArg)
		checkIs(t, "Cdef without what it needs", but(lossy(h), func(h *api.Head) { h.Cdef = true }), great(), api.ErrArg)
		checkIs(t, "no Cdef with what it needs", but(strong(lossy(h), 0), func(h *api.Head) { h.Cdef = false }), great(), api.ErrArg)
	}
}

// Key frames begin with no slot, others may; none of their slots counts by another one (P20.2).
func TestCheckSlots(t *testing.T) {
	for a := -1; a <= 8; a++ {
		for b := -1; b <= 8; b++ {
			for p := -2; p <= 8; p++ {
				h := but(inter(), func(h *api.Head) { h.Refs, h.Primary = [3]int{a, b, 8 - a}, p })
				want := api.ErrArg
				if a > 0 && a < 8 && b >= 0 && b < 8 && p > -2 && p < 8 {
					want = api.OK
				}
				checkIs(t, "not of Key", h, great(), want)
				h.Key, want = true, api.ErrArg
				checkIs(t, "of Key", h, great(), want)
			}
		}
	}
}

// A header that shows a slot has nothing else (P20.2).
func TestCheckExisting(t *testing.T) {
	for _, v := range numbers() {
		want := api.ErrArg
		if v >= 0 && v <= 7 {
			want = api.OK
		}
		checkIs(t, "Slot", existing(v), little(), want)
	}
	for slot := range 8 {
		for _, f := range fields(0) {
			for _, v := range []int{-1, 1, 2, 3, 255} {
				if f.name != "Slot" {
					checkIs(t, f.name, but(existing(slot), func(h *api.Head) { f.put(h, v) }), great(), api.ErrArg)
				}
			}
		}
		for name, turn := range truths() {
			checkIs(t, name, but(existing(slot), turn), great(), api.ErrArg)
		}
		for n := range 4 {
			h := existing(slot)
			h.Strengths = make([]api.Strength, n)
			want := api.ErrArg
			if n == 0 {
				want = api.OK
			}
			checkIs(t, "strengths", h, great(), want)
		}
	}
	for _, h := range shapes()[2:] {
		h.Existing = true
		checkIs(t, "all of another one", h, great(), api.ErrArg)
	}
}

// Cols and Rows hang on how many squares there are (P20.2).
func TestCheckCuts(t *testing.T) {
	most := []struct{ side, n int }{{16, 0}, {18, 0}, {62, 0}, {64, 0}, {66, 1}, {126, 1}, {128, 1}, {130, 1}, {190, 1}, {192, 1}, {194, 2}, {254, 2}, {256, 2}}
	for _, across := range most {
		for _, down := range most {
			for _, h := range []api.Head{key(), lossy(inter())} {
				for _, v := range [][2]int{{0, 0}, {across.n, down.n}, {across.n, 0}, {0, down.n}, {across.n + 1, down.n}, {across.n, down.n + 1}, {across.n + 1, down.n + 1}, {-1, 0}, {0, -1}, {3, 0}, {0, 3}} {
					h.Cols, h.Rows = v[0], v[1]
					want := api.ErrArg
					if v[0] >= 0 && v[1] >= 0 && v[0] <= across.n && v[1] <= down.n {
						want = api.OK
					}
					checkIs(t, "cuts", h, seq(across.side, down.side), want)
				}
			}
		}
	}
}

// There are just as many strengths as CdefBits tell (P20.2).
func TestCheckStrengths(t *testing.T) {
	for n, count := range []int{1, 2, 4, 8} {
		for have := range 20 {
			h := strong(lossy(inter()), n)
			h.Strengths = make([]api.Strength, have)
			want := api.ErrArg
			if have == count {
				want = api.OK
			}
			checkIs(t, "strengths", h, little(), want)
		}
	}
	for _, bits := range append(far(), -1, 4, 5, 8, 32, 64) {
		for _, count := range []int{0, 1, 2, 16} {
			h := strong(lossy(inter()), 0)
			h.CdefBits, h.Strengths = bits, make([]api.Strength, count)
			checkIs(t, "bits", h, little(), api.ErrArg)
		}
	}
}

// A header may be in no sequence that may not be (P20.2).
func TestCheckNoSeq(t *testing.T) {
	for _, h := range shapes() {
		for _, s := range []api.Seq{{}, seq(15, 16), seq(16, 15), seq(14, 256), seq(256, 14), seq(258, 256), seq(256, 258), seq(255, 256), seq(256, 129), seq(-256, 256), seq(1<<30, 256), seq(256, 1<<30)} {
			checkIs(t, "no sequence", h, s, api.ErrArg)
		}
		checkIs(t, "great", h, great(), api.OK)
	}
}

// Any headers of which one field or two are any number, in any sequence, against the model (P20.2).
func TestCheckModel(t *testing.T) {
	d := draws(11)
	l := numbers()
	may := 0
	for range 200000 {
		s := d.seq()
		h := d.head(s)
		all := fields(len(h.Strengths))
		for range d.below(3) {
			v := l[d.below(len(l))]
			if d.is(2) {
				v = d.below(12) - 2
			}
			all[d.below(len(all))].put(&h, v)
		}
		if d.is(9) {
			s = d.seq()
		}
		if d.is(20) {
			h.Existing = !h.Existing
		}
		want := api.ErrArg
		if modelMay(h, s) {
			want = api.OK
			may++
		}
		checkIs(t, "model", h, s, want)
	}
	if may < 40000 || may > 160000 {
		t.Errorf("%d may be", may)
	}
}

// The chapter's examples of Check (P20.2).
func TestCheckExamples(t *testing.T) {
	checkIs(t, "as it is", key(), little(), api.OK)
	checkIs(t, "Cols", but(key(), func(h *api.Head) { h.Cols = 1 }), little(), api.ErrArg)
	checkIs(t, "Primary", but(key(), func(h *api.Head) { h.Primary = 0 }), little(), api.ErrArg)
	checkIs(t, "Sharp", but(key(), func(h *api.Head) { h.Sharp = 1 }), little(), api.ErrArg)
	checkIs(t, "Base and Sharp", but(key(), func(h *api.Head) { h.Base, h.Sharp = 9, 1 }), little(), api.OK)
}

// Nothing is kept from call to call (R2, P20.2).
func TestCheckAgain(t *testing.T) {
	for range 3 {
		checkIs(t, "one that may be", strong(lossy(key()), 3), great(), api.OK)
		checkIs(t, "one that may not", api.Head{}, api.Seq{}, api.ErrArg)
		if e := heads.CheckSeq(great()); e != api.OK {
			t.Fatal(e)
		}
	}
}
