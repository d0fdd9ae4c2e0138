package modes_test

import (
	"math"
	"slices"
	"testing"

	"zoetrope/api"
	"zoetrope/modes"
)

// checks asks whether a block may be.
func checks(t *testing.T, b api.Block, f frame, may bool) {
	t.Helper()
	want := api.ErrArg
	if may {
		want = api.OK
	}
	if e := modes.Check(b, f.key, f.lossless); e != want {
		t.Fatalf("Check of %+v in %+v: %d, want %d", b, f, e, want)
	}
}

// allows asks which of all numbers a field may be, all else left as it is.
func allows(t *testing.T, b api.Block, f frame, name string, may ...int) {
	t.Helper()
	l := fields()
	at := slices.IndexFunc(l, func(x field) bool { return x.name == name })
	for _, n := range all() {
		*l[at].of(&b) = n
		checks(t, b, f, slices.Contains(may, n))
	}
}

// upTo are the numbers from one to another one.
func upTo(least, most int) []int {
	var l []int
	for n := least; n <= most; n++ {
		l = append(l, n)
	}
	return l
}

func without(l []int, n int) []int {
	return slices.DeleteFunc(slices.Clone(l), func(v int) bool { return v == n })
}

// Every shape that may be, and none beside them (P18.1).
func TestShapes(t *testing.T) {
	numbers := append(upTo(-16, 136), far()...)
	for _, w := range numbers {
		for _, h := range numbers {
			b := intra(0, 0, w, h)
			checks(t, b, plain, slices.Contains(shapes(), [2]int{w, h}))
			b.TxSize = 4
			checks(t, b, frame{true, true}, slices.Contains(shapes(), [2]int{w, h}))
		}
	}
	for _, s := range [][2]int{{8, 64}, {64, 8}, {24, 8}, {8, 24}, {4, 4}, {4, 8}, {8, 4}, {128, 128}, {128, 32}, {32, 128}, {0, 0}, {48, 16}, {-8, -8}} {
		for _, size := range []int{4, 8, 16, 64} {
			for _, f := range frames() {
				b := intra(0, 0, s[0], s[1])
				b.TxSize = size
				checks(t, b, f, false)
				b.Inter = true
				checks(t, b, f, false)
			}
		}
	}
}

// Places are multiples of 8 from 0 to 248, whatever the shape (P18.1).
func TestPlaces(t *testing.T) {
	var may []int
	for n := range 32 {
		may = append(may, 8*n)
	}
	for _, s := range shapes() {
		allows(t, intra(0, 0, s[0], s[1]), plain, "X", may...)
		allows(t, intra(0, 0, s[0], s[1]), plain, "Y", may...)
		allows(t, intra(248, 16, s[0], s[1]), frame{true, false}, "X", may...)
		allows(t, inter(16, 248, s[0], s[1], 2, vec(3, 4)), plain, "Y", may...)
	}
	for _, x := range may {
		for _, y := range may {
			checks(t, intra(x, y, 64, 64), plain, true)
			checks(t, intra(x+4, y, 8, 8), plain, false)
			checks(t, intra(x, y+1, 8, 8), plain, false)
		}
	}
}

// Which sizes of transforms each shape may have, in each frame, by hand (P18.1).
func TestSizes(t *testing.T) {
	may := map[int][]int{8: {4, 8}, 16: {4, 8, 16}, 32: {8, 16, 32}, 64: {16, 32, 64}}
	for _, s := range shapes() {
		least := min(s[0], s[1])
		a, b := intra(8, 16, s[0], s[1]), inter(8, 16, s[0], s[1], 0, vec(0, 0))
		for _, key := range []bool{true, false} {
			allows(t, a, frame{key, false}, "TxSize", may[least]...)
			allows(t, skipped(a), frame{key, false}, "TxSize", may[least]...)
			allows(t, a, frame{key, true}, "TxSize", 4)
			allows(t, skipped(a), frame{key, true}, "TxSize", 4)
		}
		allows(t, b, plain, "TxSize", may[least]...)
		allows(t, skipped(b), plain, "TxSize", least)
		allows(t, b, frame{false, true}, "TxSize", 4)
		allows(t, skipped(b), frame{false, true}, "TxSize", 4)
		for _, lossless := range []bool{true, false} {
			allows(t, b, frame{true, lossless}, "TxSize")
			allows(t, skipped(b), frame{true, lossless}, "TxSize")
		}
	}
}

// Of an intra block: its modes and their deltas (P18.1).
func TestIntraModes(t *testing.T) {
	for _, f := range frames() {
		for _, s := range shapes() {
			b := in(f, intra(0, 0, s[0], s[1]))
			allows(t, b, f, "YMode", upTo(0, 12)...)
			allows(t, b, f, "UVMode", upTo(0, 12)...)
			for mode := range 13 {
				may := []int{0}
				if slices.Contains([]int{api.ModeV, api.ModeH, api.ModeD45, api.ModeD135, api.ModeD113, api.ModeD157, api.ModeD203, api.ModeD67}, mode) {
					may = []int{-3, -2, -1, 0, 1, 2, 3}
				}
				allows(t, but(b, func(b *api.Block) { b.YMode = mode }), f, "YDelta", may...)
				allows(t, but(b, func(b *api.Block) { b.UVMode = mode }), f, "UVDelta", may...)
			}
			for _, delta := range []int{-3, -1, 1, 3} {
				allows(t, but(b, func(b *api.Block) { b.YDelta = delta }), f, "YMode", upTo(1, 8)...)
				allows(t, but(b, func(b *api.Block) { b.UVDelta = delta }), f, "UVMode", upTo(1, 8)...)
			}
			for _, delta := range []int{-4, 4} {
				allows(t, but(b, func(b *api.Block) { b.YDelta = delta }), f, "YMode")
				allows(t, but(b, func(b *api.Block) { b.UVDelta = delta }), f, "UVMode")
			}
		}
	}
	// brightness has no such mode, and neither's direction lets the other one have a delta
	b := intra(0, 0, 16, 16)
	checks(t, but(b, func(b *api.Block) { b.YMode, b.UVDelta = api.ModeV, 1 }), plain, false)
	checks(t, but(b, func(b *api.Block) { b.UVMode, b.YDelta = api.ModeV, 1 }), plain, false)
	checks(t, but(b, func(b *api.Block) { b.YMode, b.CflU = api.ModeCfl, 1 }), plain, false)
}

// Of an intra block: colour out of brightness, where it may come of it and where it may not (P18.1).
func TestCfl(t *testing.T) {
	for _, f := range frames() {
		for _, s := range shapes() {
			may := s[0] <= 32 && s[1] <= 32
			b := in(f, intra(0, 0, s[0], s[1]))
			b.UVMode = api.ModeCfl
			checks(t, b, f, false) // both are 0
			moved, still := upTo(-16, 16), without(upTo(-16, 16), 0)
			if !may {
				moved, still = nil, nil
			}
			allows(t, b, f, "CflU", still...)
			allows(t, b, f, "CflV", still...)
			for _, n := range []int{-16, -1, 1, 16} {
				u := but(b, func(b *api.Block) { b.CflU = n })
				v := but(b, func(b *api.Block) { b.CflV = n })
				allows(t, u, f, "CflV", moved...)
				allows(t, v, f, "CflU", moved...)
				mode, delta := []int{api.ModeCfl}, []int{0}
				if !may {
					mode, delta = nil, nil
				}
				allows(t, u, f, "UVMode", mode...)
				allows(t, v, f, "UVMode", mode...)
				allows(t, u, f, "UVDelta", delta...)
				checks(t, u, f, may)
				checks(t, v, f, may)
				checks(t, but(u, func(b *api.Block) { b.UVDelta = 1 }), f, false)
			}
			for _, n := range []int{-17, 17} {
				allows(t, but(b, func(b *api.Block) { b.CflU = n }), f, "CflV")
				allows(t, but(b, func(b *api.Block) { b.CflV = n }), f, "CflU")
			}
			for mode := range 13 {
				b := in(f, intra(0, 0, s[0], s[1]))
				b.UVMode = mode
				allows(t, b, f, "CflU", 0)
				allows(t, b, f, "CflV", 0)
			}
		}
	}
}

// Of an intra block all that speaks of other frames is zero (P18.1).
func TestIntraHasNoVectors(t *testing.T) {
	for _, f := range frames() {
		for _, s := range shapes() {
			for _, b := range []api.Block{intra(0, 0, s[0], s[1]), skipped(intra(8, 8, s[0], s[1]))} {
				b = in(f, b)
				for _, x := range interOnly {
					allows(t, b, f, x.name, 0)
				}
				checks(t, b, f, true)
				checks(t, but(b, func(b *api.Block) { b.Comp = true }), f, false)
				checks(t, but(b, func(b *api.Block) { b.Obmc = true }), f, false)
			}
		}
	}
}

// Of an inter block: what it may say of other frames, and that what it says of its edges is zero (P18.1).
func TestInter(t *testing.T) {
	parts := slices.DeleteFunc(all(), func(n int) bool { return n < -4095 || n > 4095 })
	for _, f := range []frame{{false, false}, {false, true}} {
		for _, s := range shapes() {
			for _, b := range []api.Block{
				inter(0, 0, s[0], s[1], 0, vec(0, 0)), inter(0, 0, s[0], s[1], 2, vec(4095, -4095)), skipped(inter(8, 8, s[0], s[1], 1, vec(-4095, 4095))),
				comp(0, 0, s[0], s[1], 0, vec(0, 0), 0, vec(0, 0)), comp(0, 0, s[0], s[1], 1, vec(1, 2), 2, vec(-4095, 4095)), skipped(comp(0, 8, s[0], s[1], 2, vec(7, 7), 2, vec(7, 7))),
			} {
				b = in(f, b)
				checks(t, b, f, true)
				allows(t, b, f, "Ref 0", 0, 1, 2)
				allows(t, b, f, "MvMode", 0, 1, 2, 3)
				allows(t, b, f, "Filter", 0, 1, 2)
				allows(t, b, f, "Mv 0 X", parts...)
				allows(t, b, f, "Mv 0 Y", parts...)
				second, further := []int{0}, []int{0}
				if b.Comp {
					second, further = []int{0, 1, 2}, parts
				}
				allows(t, b, f, "Ref 1", second...)
				allows(t, b, f, "Mv 1 X", further...)
				allows(t, b, f, "Mv 1 Y", further...)
				checks(t, but(b, func(b *api.Block) { b.Obmc = true }), f, !b.Comp)
				for _, x := range intraOnly {
					allows(t, b, f, x.name, 0)
				}
				checks(t, b, frame{true, f.lossless}, false)
			}
		}
	}
	// what only one of two frames has is refused of a block that comes out of one
	checks(t, but(comp(0, 0, 8, 8, 1, vec(1, 2), 2, vec(3, 4)), func(b *api.Block) { b.Comp = false }), plain, false)
	checks(t, but(inter(0, 0, 8, 8, 1, vec(1, 2)), func(b *api.Block) { b.Inter = false }), plain, false)
	checks(t, but(intra(0, 0, 8, 8), func(b *api.Block) { b.Inter = true }), plain, true)
}

// The chapter's rows, and a block of a lossless key frame (P18.1).
func TestCheckExamples(t *testing.T) {
	b := but(intra(0, 0, 8, 8), func(b *api.Block) {
		b.YMode, b.YDelta, b.UVMode, b.CflU = api.ModeV, -1, api.ModeCfl, 3
	})
	checks(t, b, plain, true)
	checks(t, skipped(inter(8, 0, 16, 8, 2, vec(5, 0))), plain, true)
	checks(t, but(intra(0, 0, 8, 8), func(b *api.Block) { b.YMode = 13 }), plain, false)
	checks(t, but(intra(0, 0, 8, 8), func(b *api.Block) { b.TxSize = 16 }), plain, false)
	checks(t, intra(0, 0, 24, 8), plain, false)
	checks(t, but(intra(0, 0, 8, 8), func(b *api.Block) { b.TxSize = 4 }), frame{true, true}, true)
	checks(t, api.Block{}, plain, false)
	checks(t, api.Block{}, frame{true, true}, false)
}

// Mixed blocks that may be, each field and each flag changed, alone and together with another one (P18.1).
func TestChangedFields(t *testing.T) {
	d := draws(21)
	ends := []int{-4096, -4095, -17, -16, -8, -4, -3, -2, -1, 0, 1, 2, 3, 4, 5, 8, 9, 12, 13, 14, 16, 17, 32, 64, 128, 248, 256, 4095, 4096, math.MaxInt, math.MinInt}
	for range 30 {
		tile := d.tile()
		f := frames()[d.below(4)]
		b := d.block(t, gridOf(t, tile), d.shape(tile), f)
		checks(t, b, f, true)
		for _, other := range frames() {
			checks(t, b, other, mayBe(b, other))
		}
		for _, x := range fields() {
			for _, n := range all() {
				changed := b
				*x.of(&changed) = n
				checks(t, changed, f, mayBe(changed, f))
			}
			for _, y := range fields() {
				changed := b
				*x.of(&changed), *y.of(&changed) = d.one(ends...), d.one(ends...)
				checks(t, changed, f, mayBe(changed, f))
			}
			for _, flag := range flags() {
				changed := b
				*x.of(&changed) = d.one(ends...)
				*flag(&changed) = !*flag(&changed)
				checks(t, changed, f, mayBe(changed, f))
			}
		}
		for _, flag := range flags() {
			for _, second := range flags() {
				changed := b
				*flag(&changed) = !*flag(&changed)
				checks(t, changed, f, mayBe(changed, f))
				*second(&changed) = !*second(&changed)
				checks(t, changed, f, mayBe(changed, f))
			}
		}
	}
}

// Fields that are anything small: blocks of which few may be (P18.1).
func TestAnyFields(t *testing.T) {
	d, many := draws(22), 0
	for range 100000 {
		few := func() int { return d.one(0, 0, 0, 0, 0, 0, 0, 1, 2, -1, 3) }
		b := api.Block{
			X: 8 * d.below(3), Y: 8 * d.below(3), W: d.one(sides()...), H: d.one(sides()...), Skip: d.is(3), Inter: d.is(2),
			YMode: few(), YDelta: few(), UVMode: d.one(0, 0, 0, 0, 0, 5, 13), UVDelta: few(), CflU: few(), CflV: few(), TxSize: d.one(4, 8, 16, 32, 64),
			Comp: d.is(3), Ref: [2]int{few(), few()}, MvMode: few(), Mv: [2]api.Vec{vec(few(), few()), vec(few(), few())}, Filter: few(), Obmc: d.is(4),
		}
		f := frames()[d.below(4)]
		may := mayBe(b, f)
		checks(t, b, f, may)
		many += one(may)
	}
	if many < 100 {
		t.Errorf("only %d of them may be", many)
	}
}
