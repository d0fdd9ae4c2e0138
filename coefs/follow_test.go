package coefs_test

import (
	"slices"
	"testing"

	"zoetrope/api"
	"zoetrope/coefs"
	"zoetrope/syms"
)

// Levels that were written are read as they were, with the same tables on both sides behind each block (P11.4, W6).
func TestThereAndBack(t *testing.T) {
	d := draws(3)
	for _, s := range sets(t) {
		for _, adapt := range []bool{true, false} {
			l := d.blocks(80)
			w := writer(t, s, adapt)
			var tables []api.Set
			var count []int
			for _, b := range l {
				codes(t, w, b)
				tables, count = append(tables, set(t, w)), append(count, w.Count())
			}
			r := reader(t, written(t, w), s, adapt)
			for i, b := range l {
				codes(t, r, b)
				if !sameSet(set(t, r), tables[i]) || r.Count() != count[i] {
					t.Fatalf("block %d: reader and writer do not stand alike", i)
				}
				if !adapt && !sameSet(tables[i], s) {
					t.Fatalf("block %d: tables have changed without adapting", i)
				}
			}
		}
	}
}

// A long row of small blocks, each with the sign's context of the one ahead of it, is read as it was written (P11.2, P11.4).
func TestRowOfSigns(t *testing.T) {
	d := draws(23)
	w := writer(t, syms.Default(), true)
	var l []block
	sign := 0
	for range 2000 {
		b := block{4, d.below(3), sign, make([]int, 16)}
		for at := range d.below(5) {
			b.levels[at] = d.below(41) - 20
		}
		codes(t, w, b)
		l, sign = append(l, b), coefs.Sign(b.levels)
	}
	r, sign := reader(t, written(t, w), syms.Default(), true), 0
	for i, b := range l {
		got, e := coefs.Code(r, 4, b.plane, sign, nil)
		if !slices.Equal(got, b.levels) || e != api.OK {
			t.Fatalf("block %d: %v, %d", i, got, e)
		}
		sign = coefs.Sign(got)
	}
	alikeRead(t, r, w)
}

// What is read of any bytes can be written, if no amount is above 2^20, and is read again (P11.4, W6).
func TestReadWrittenRead(t *testing.T) {
	d := draws(9)
	for _, bytes := range samples() {
		for _, s := range sets(t) {
			r, w := reader(t, bytes, s, true), writer(t, s, true)
			for range 5 {
				b := d.block()
				var e api.Errno
				if b.levels, e = coefs.Code(r, b.size, b.plane, b.sign, nil); e != api.OK || slices.Max(b.levels) > 1<<20 || slices.Min(b.levels) < -1<<20 {
					break
				}
				codes(t, w, b)
				if w.Count() != r.Count() || !sameSet(set(t, w), set(t, r)) {
					t.Fatalf("%x: written otherwise than read", bytes)
				}
			}
		}
	}
}

// A block that is all noughts takes one symbol, of every size, plane and sign's context, written or read (P11.4).
func TestNoughtsTakeOne(t *testing.T) {
	for _, size := range sizes() {
		for plane := range 3 {
			for sign := range 3 {
				b := with(size, plane, sign, nil)
				w := writer(t, syms.Default(), true)
				for n := range 5 {
					codes(t, w, b)
					if w.Count() != n+1 {
						t.Errorf("size %d: %d symbols of %d blocks of noughts", size, w.Count(), n+1)
					}
				}
				r := reader(t, written(t, w), syms.Default(), true)
				for range 5 {
					codes(t, r, b)
				}
				alikeRead(t, r, w)
				codes(t, w, with(size, plane, sign, map[int]int{places(size) - 1: 1}))
				if w.Count() < 5+4 {
					t.Errorf("size %d: a level that is not 0 takes %d", size, w.Count()-5)
				}
			}
		}
	}
}

// At most 64 symbols and bits for each level, and 12 more: blocks that are as long as one can write them, and as one can read them (P11.4, W5).
func TestBoundOfSymbols(t *testing.T) {
	for _, size := range sizes() {
		n := places(size)
		for _, v := range []int{1 << 20, -1 << 20, 1<<19 + 14} {
			w := writer(t, syms.Default(), true)
			codes(t, w, block{size, 0, 0, slices.Repeat([]int{v}, n)})
			bounded(t, nil, w.Count(), n)
		}
		w := writer(t, syms.Default(), false)
		long := longest(size)
		does(t, w, long...)
		r := reader(t, written(t, w), syms.Default(), false)
		readsBeside(t, r, block{size, 0, 0, nil}, slices.Repeat([]int{-(1<<21 + 13)}, n))
		alikeRead(t, r, w)
		bounded(t, nil, r.Count(), n)
	}
}

// longest are the acts of a block, of plane 0, all of whose levels are as far below 0 as can be read.
func longest(size int) []act {
	n, side := places(size), sideOf(size)
	kind, zero := kindOf(size)
	class := 0
	for 1<<class < n {
		class++
	}
	l := []act{symbol(api.SymZero, zero, 0), symbol(kind, 0, class), plain(class-1, 1<<(class-1)-1)}
	known, order := make([]int, n), orderOf(size)
	for i := n - 1; i >= 0; i-- {
		at := order[i]
		first := symbol(api.SymBase, baseAt(known, side, at), 3)
		if i == n-1 {
			first = symbol(api.SymLast, 0, 2)
		}
		l = append(l, first)
		for range 4 {
			l = append(l, symbol(api.SymMore, moreAt(known, side, at), 3))
		}
		l = append(l, plain(20, 0), plain(1, 1), plain(20, 1<<20-1))
		known[at] = 1<<21 + 13
	}
	l = append(l, symbol(api.SymDcSign, 0, 1))
	for range n - 1 {
		l = append(l, plain(1, 1))
	}
	return l
}

// Nothing is kept beside the coders: two of them that take turns answer as each does alone (R2).
func TestTurns(t *testing.T) {
	d := draws(55)
	l, m := d.blocks(20), d.blocks(20)
	a, b, alone, other := writer(t, syms.Default(), true), writer(t, syms.Default(), true), writer(t, syms.Default(), true), writer(t, syms.Default(), true)
	for i := range l {
		codes(t, a, l[i])
		codes(t, b, m[i])
	}
	for i := range l {
		codes(t, alone, l[i])
	}
	for i := range m {
		codes(t, other, m[i])
	}
	alike(t, "taking turns", a, alone)
	alike(t, "taking turns", b, other)
}
