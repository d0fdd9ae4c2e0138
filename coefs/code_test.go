package coefs_test

import (
	"fmt"
	"slices"
	"testing"

	"zoetrope/api"
	"zoetrope/coefs"
	"zoetrope/syms"
)

// planned has a block coded by a writer and by a reader of what was written, both held against the calls that the chapter tells (P11.1, P11.4).
func planned(t *testing.T, s api.Set, adapt bool, b block) {
	t.Helper()
	l := plan(b)
	w, by := writer(t, s, adapt), writer(t, s, adapt)
	codes(t, w, b)
	does(t, by, l...)
	what := fmt.Sprintf("size %d, plane %d, sign %d, %v", b.size, b.plane, b.sign, b.levels)
	alike(t, what, w, by)
	if w.Count() != weight(l) {
		t.Fatalf("%s: %d symbols and bits, want %d", what, w.Count(), weight(l))
	}
	r := reader(t, written(t, by), s, adapt)
	codes(t, r, b)
	if r.Count() != weight(l) || !sameSet(set(t, r), set(t, w)) {
		t.Fatalf("%s: read: %d symbols and bits, want %d, or other tables", what, r.Count(), weight(l))
	}
}

// The chapter's examples (P11.1).
func TestExamples(t *testing.T) {
	for _, x := range []struct {
		b     block
		count int
	}{
		{with(4, 0, 0, nil), 1},
		{with(4, 0, 0, map[int]int{0: 3}), 5},
		{with(4, 1, 2, map[int]int{0: -20, 1: 1}), 15},
	} {
		for _, adapt := range []bool{true, false} {
			w := writer(t, syms.Default(), adapt)
			codes(t, w, x.b)
			if w.Count() != x.count {
				t.Errorf("%v: %d symbols and bits, want %d", x.b.levels, w.Count(), x.count)
			}
		}
	}
	w := writer(t, syms.Default(), true)
	refused(t, w, block{5, 0, 0, nil}, api.ErrArg)
	refused(t, w, block{4, 3, 0, make([]int, 16)}, api.ErrArg)
	refused(t, w, block{4, 0, 0, make([]int, 15)}, api.ErrArg)
	if w.Count() != 0 {
		t.Errorf("what is refused was coded: %d", w.Count())
	}
}

// byHand asks whether a block is coded by just these acts, worked out by hand, either way.
func byHand(t *testing.T, b block, l ...act) {
	t.Helper()
	if p := plan(b); !slices.Equal(p, l) {
		t.Errorf("the plan of %v is %v, by hand it is %v", b, p, l)
	}
	for _, s := range sets(t) {
		for _, adapt := range []bool{true, false} {
			w, by := writer(t, s, adapt), writer(t, s, adapt)
			codes(t, w, b)
			does(t, by, l...)
			alike(t, fmt.Sprint(b), w, by)
			r := reader(t, written(t, by), s, adapt)
			codes(t, r, b)
			if r.Count() != by.Count() || !sameSet(set(t, r), set(t, by)) {
				t.Errorf("%v: read otherwise than written", b)
			}
		}
	}
}

// Blocks whose symbols are worked out by hand (P11.1).
func TestByHand(t *testing.T) {
	byHand(t, with(4, 0, 0, nil), symbol(api.SymZero, 0, 1))
	byHand(t, with(4, 0, 0, map[int]int{0: 3}),
		symbol(api.SymZero, 0, 0), symbol(api.SymEob4, 0, 0), symbol(api.SymLast, 0, 2), symbol(api.SymMore, 0, 0), symbol(api.SymDcSign, 0, 0))
	byHand(t, with(4, 1, 2, map[int]int{0: -20, 1: 1}),
		symbol(api.SymZero, 2, 0), symbol(api.SymEob4, 1, 1),
		symbol(api.SymLast, 1, 0),
		symbol(api.SymBase, 6, 3), symbol(api.SymMore, 8, 3), symbol(api.SymMore, 8, 3), symbol(api.SymMore, 8, 3), symbol(api.SymMore, 8, 3),
		plain(1, 0), plain(1, 0), plain(1, 1), plain(1, 1), plain(1, 0),
		symbol(api.SymDcSign, 5, 1), plain(1, 0))
	byHand(t, with(4, 0, 1, map[int]int{0: 7, 1: 5, 4: -2, 5: 1}),
		symbol(api.SymZero, 0, 0), symbol(api.SymEob4, 0, 3), plain(2, 0),
		symbol(api.SymLast, 0, 0),
		symbol(api.SymBase, 0, 0),
		symbol(api.SymBase, 1, 2),
		symbol(api.SymBase, 1, 3), symbol(api.SymMore, 1, 2),
		symbol(api.SymBase, 3, 3), symbol(api.SymMore, 4, 3), symbol(api.SymMore, 4, 1),
		symbol(api.SymDcSign, 1, 0), plain(1, 0), plain(1, 1), plain(1, 0))
	byHand(t, with(64, 2, 0, map[int]int{64: -15}), // row 2, the sixth of the order: the class 3, of which it is the second
		symbol(api.SymZero, 3, 0), symbol(api.SymEob32, 1, 3), plain(2, 1),
		symbol(api.SymLast, 1, 2), symbol(api.SymMore, 7, 3), symbol(api.SymMore, 7, 3), symbol(api.SymMore, 7, 3), symbol(api.SymMore, 7, 3), plain(1, 1),
		symbol(api.SymBase, 5, 0), // row 1, column 1
		symbol(api.SymBase, 5, 0), // column 2
		symbol(api.SymBase, 7, 0), // row 1
		symbol(api.SymBase, 5, 0), // column 1
		symbol(api.SymBase, 7, 0),
		plain(1, 1))
}

// amounts are those at which another step begins, those just beside them, and all small ones.
func amounts() []int {
	l := []int{1000, 4095, 99999, 1<<20 - 2, 1<<20 - 1, 1 << 20}
	for a := 1; a <= 80; a++ {
		l = append(l, a)
	}
	for k := 7; k < 20; k++ {
		l = append(l, 1<<k, 1<<k+13, 1<<k+14, 1<<k+15) // less 14 it has another bit
	}
	return l
}

// Every amount at which another step begins, with either sign, alone at each of some places, and ahead of an end elsewhere (P11.1).
func TestAmounts(t *testing.T) {
	for _, a := range amounts() {
		for _, size := range []int{4, 16} {
			for plane := range 3 {
				for _, level := range []int{a, -a} {
					for _, at := range []int{0, 1, sideOf(size), sideOf(size) + 1, places(size) - 1} {
						planned(t, syms.Default(), true, with(size, plane, a%3, map[int]int{at: level}))
					}
					for _, at := range []int{0, 1, sideOf(size)} {
						planned(t, syms.Default(), true, with(size, plane, a%3, map[int]int{at: level, sideOf(size) + 1: -2}))
						planned(t, syms.Default(), true, with(size, plane, a%3, map[int]int{at: -9, sideOf(size) + 1: level}))
					}
				}
			}
		}
	}
}

// How many symbols and bits each amount takes, by hand: at the end's own place, and at the place 0 ahead of it (P11.1).
func TestCountOfAmounts(t *testing.T) {
	for a, steps := range map[int]int{
		1: 1, 2: 1, 3: 2, 5: 2, 6: 3, 8: 3, 9: 4, 11: 4, 12: 5, 14: 5,
		15: 6, 16: 8, 17: 8, 18: 10, 21: 10, 22: 12, 29: 12, 30: 14, 1<<10 + 13: 24, 1<<10 + 14: 26, 1<<19 + 13: 42, 1<<19 + 14: 44, 1 << 20: 44,
	} {
		for _, level := range []int{a, -a} {
			for _, size := range sizes() {
				for plane := range 3 {
					w := writer(t, syms.Default(), true)
					codes(t, w, with(size, plane, 1, map[int]int{0: level}))
					if w.Count() != 3+steps {
						t.Errorf("%d alone, size %d: %d symbols and bits, want %d", level, size, w.Count(), 3+steps)
					}
					w = writer(t, syms.Default(), true)
					codes(t, w, with(size, plane, 1, map[int]int{0: level, 1: -level}))
					if w.Count() != 4+2*steps {
						t.Errorf("%d twice, size %d: %d symbols and bits, want %d", level, size, w.Count(), 4+2*steps)
					}
				}
			}
		}
	}
}

// Every end of every size: a 1 there alone, and nothing but amounts up to there (P11.1).
func TestEnds(t *testing.T) {
	for _, size := range sizes() {
		order, d := orderOf(size), draws(size)
		for end := 1; end <= len(order); end++ {
			b := with(size, end%3, end/3%3, map[int]int{order[end-1]: 1 - end%2*2})
			planned(t, syms.Default(), true, b)
			if len(order) > 64 && bitsOf(end) < 8 && bitsOf(end-1) < 8 {
				continue
			}
			for _, at := range order[:end] {
				b.levels[at] = d.below(9)*2 - 9
			}
			planned(t, syms.Default(), true, b)
		}
	}
}

// bitsOf is how many noughts end a number: many of ends about those at which a class begins.
func bitsOf(n int) int {
	k := 0
	for ; n > 0 && n%2 == 0; n /= 2 {
		k++
	}
	return k
}

// How many bits tell where a block of each class ends (P11.1).
func TestCountOfEnds(t *testing.T) {
	for _, size := range sizes() {
		order := orderOf(size)
		for end := 1; end <= len(order); end++ {
			w := writer(t, syms.Default(), false)
			codes(t, w, with(size, 2, 2, map[int]int{order[end-1]: 2}))
			further := 0
			for last := 2; last < end; last *= 2 {
				further++
			}
			if want := 1 + 1 + further + end + 1; w.Count() != want {
				t.Errorf("size %d, end %d: %d symbols and bits, want %d", size, end, w.Count(), want)
			}
		}
	}
}

// Mixed blocks of every size and plane, with every set, one by one (P11.1).
func TestMixedBlocks(t *testing.T) {
	d := draws(5)
	for _, s := range sets(t) {
		for i, b := range d.blocks(150) {
			planned(t, s, i%2 == 0, b)
		}
	}
}

// A block with a level at each of its places, all of them great (P11.1).
func TestFullBlocks(t *testing.T) {
	for _, size := range sizes() {
		for _, v := range []int{1, -1, 2, 3, 15, -16, 1 << 20, -1 << 20} {
			for plane := range 3 {
				planned(t, syms.Default(), true, block{size, plane, 2, slices.Repeat([]int{v}, places(size))})
			}
		}
	}
}

// 64 has the side 32: its blocks are coded as those of 32 are (P11.1).
func TestSize64(t *testing.T) {
	d := draws(64)
	for range 30 {
		l := d.levels(64)
		if len(l) != 1024 {
			t.Fatalf("%d levels", len(l))
		}
		for plane := range 3 {
			a, b := writer(t, syms.Default(), true), writer(t, syms.Default(), true)
			codes(t, a, block{64, plane, 1, l})
			codes(t, b, block{32, plane, 1, l})
			alike(t, "64 and 32", a, b)
		}
	}
	w := writer(t, syms.Default(), true)
	for _, n := range []int{4096, 1023, 1025, 2048, 64, 256} {
		refused(t, w, block{64, 0, 0, make([]int, n)}, api.ErrArg)
	}
}

// The planes 1 and 2 are coded alike, and otherwise than the plane 0 (P11.1).
func TestColours(t *testing.T) {
	d := draws(12)
	for range 40 {
		b := d.block()
		var w [3]*syms.Coder
		for plane := range w {
			b.plane = plane
			w[plane] = writer(t, syms.Default(), true)
			codes(t, w[plane], b)
		}
		alike(t, "the planes 1 and 2", w[1], w[2])
		if sameSet(set(t, w[0]), set(t, w[1])) {
			t.Error("the planes 0 and 1 have the same tables")
		}
	}
}

// The sign's context says how the sign at the place 0 is coded, and nothing else (P11.1).
func TestSignContext(t *testing.T) {
	for plane, colour := range []int{0, 1, 1} {
		for sign := range 3 {
			for _, level := range []int{5, -5} {
				w := writer(t, syms.Default(), true)
				codes(t, w, with(8, plane, sign, map[int]int{0: level, 9: -level}))
				for i, x := range set(t, w).T[api.SymDcSign] {
					if (x.Count == 1) != (i == 3*colour+sign) {
						t.Errorf("plane %d, sign %d: context %d was used %d times", plane, sign, i, x.Count)
					}
				}
			}
			w := writer(t, syms.Default(), true)
			codes(t, w, with(8, plane, sign, map[int]int{1: -1, 9: 1}))
			for i, x := range set(t, w).T[api.SymDcSign] {
				if x.Count != 0 {
					t.Errorf("plane %d, sign %d: without a level at the place 0 context %d was used", plane, sign, i)
				}
			}
		}
	}
}

// used is which contexts of a kind were used, by how often.
func used(t *testing.T, b block, kind int) map[int]int {
	t.Helper()
	w := writer(t, syms.Default(), true)
	codes(t, w, b)
	m := map[int]int{}
	for i, x := range set(t, w).T[kind] {
		if x.Count > 0 {
			m[i] = x.Count
		}
	}
	return m
}

func usedIs(t *testing.T, b block, kind int, want map[int]int) {
	t.Helper()
	if got := used(t, b, kind); fmt.Sprint(got) != fmt.Sprint(want) {
		t.Errorf("size %d, plane %d, kind %d: contexts %v, want %v", b.size, b.plane, kind, got, want)
	}
}

// Which contexts each kind has, by colour and size (P11.1).
func TestContexts(t *testing.T) {
	for _, size := range sizes() {
		for plane, colour := range []int{0, 1, 1} {
			zero := 2 * colour
			if size == 16 || size == 32 || size == 64 {
				zero++
			}
			usedIs(t, with(size, plane, 0, nil), api.SymZero, map[int]int{zero: 1})
			b := with(size, plane, 0, map[int]int{0: 3})
			usedIs(t, b, api.SymZero, map[int]int{zero: 1})
			usedIs(t, b, api.SymLast, map[int]int{colour: 1})
			usedIs(t, b, api.SymMore, map[int]int{7 * colour: 1})
			usedIs(t, b, api.SymBase, map[int]int{})
			for kind := api.SymEob4; kind <= api.SymEob32; kind++ {
				want := map[int]int{}
				if own := map[int]int{4: api.SymEob4, 8: api.SymEob8, 16: api.SymEob16, 32: api.SymEob32, 64: api.SymEob32}; own[size] == kind {
					want[colour] = 1
				}
				usedIs(t, b, kind, want)
			}
		}
	}
}

// Contexts of steps: a 4 at the place 0, and amounts of all sorts beside it, which is the end's own place (P11.1).
func TestContextsOfSteps(t *testing.T) {
	for plane, colour := range []int{0, 1, 1} {
		for v, more := range []int{0, 1, 1, 2, 2, 3, 3, 4, 4, 5, 5, 6, 6, 6, 6, 6, 6, 6} {
			if v == 0 {
				continue
			}
			for _, level := range []int{v, -v} {
				b := with(4, plane, 0, map[int]int{0: 4, 1: level})
				usedIs(t, b, api.SymBase, map[int]int{5*colour + min((v+1)/2, 2): 1})
				want := map[int]int{7*colour + more: 1}
				if v >= 3 {
					want[7*colour] = min(v/3, 4)
				}
				usedIs(t, b, api.SymMore, want)
			}
		}
	}
}

// Contexts of steps where several neighbours count, by hand (P11.1).
func TestContextsOfNeighbours(t *testing.T) {
	for plane, colour := range []int{0, 1, 1} {
		for _, x := range []struct {
			set  map[int]int
			base [5]int // how often each of the colour's contexts is used
			more [7]int
		}{
			{map[int]int{0: 1, 1: 3, 4: 3}, [5]int{1, 0, 0, 1, 0}, [7]int{2, 0, 0, 0, 0, 0, 0}},
			{map[int]int{0: 1, 1: 3, 4: 3, 5: 1}, [5]int{1, 2, 0, 0, 1}, [7]int{0, 2, 0, 0, 0, 0, 0}},
			{map[int]int{0: 3, 1: -3, 4: 3, 5: -9}, [5]int{1, 0, 2, 0, 1}, [7]int{3, 0, 0, 0, 0, 2, 1}},
			{map[int]int{0: 1, 1: 1, 4: -1, 5: 1, 2: -1, 8: 1}, [5]int{2, 2, 0, 1, 0}, [7]int{}},
			{map[int]int{0: -9, 1: 1, 4: 1, 5: -1, 2: 2, 8: -2}, [5]int{2, 0, 2, 0, 1}, [7]int{0, 0, 3, 0, 0, 0, 0}},
		} {
			b := with(4, plane, 0, x.set)
			base, more := map[int]int{}, map[int]int{}
			for i, n := range x.base {
				if n > 0 {
					base[5*colour+i] = n
				}
			}
			for i, n := range x.more {
				if n > 0 {
					more[7*colour+i] = n
				}
			}
			usedIs(t, b, api.SymBase, base)
			usedIs(t, b, api.SymMore, more)
		}
	}
}

// Blocks one behind the other, other symbols among them: each is coded with what those ahead of it have taught (P11.1, P11.4).
func TestOneBehindTheOther(t *testing.T) {
	d := draws(77)
	for _, s := range sets(t) {
		l := d.blocks(60)
		w, by := writer(t, s, true), writer(t, s, true)
		for i, b := range l {
			codes(t, w, b)
			does(t, by, plan(b)...)
			between := []act{symbol(api.SymSkip, i%3, i%2), plain(3, i%8)}
			does(t, w, between...)
			does(t, by, between...)
			alike(t, "a row of blocks", w, by)
		}
		r := reader(t, written(t, w), s, true)
		for i, b := range l {
			codes(t, r, b)
			does(t, r, symbol(api.SymSkip, i%3, i%2), plain(3, i%8))
		}
		if r.Count() != w.Count() || !sameSet(set(t, r), set(t, w)) {
			t.Error("behind a row of blocks reader and writer do not stand alike")
		}
	}
}

// What the first level is, tells the sign's context (P11.2).
func TestSign(t *testing.T) {
	for _, x := range []struct {
		levels []int
		want   int
	}{
		{[]int{-3, 1}, 1}, {[]int{0, 1}, 0}, {nil, 0}, {[]int{}, 0}, {[]int{0}, 0}, {[]int{0, -1}, 0}, {[]int{1}, 2}, {[]int{-1}, 1}, {[]int{2, -1}, 2}, {[]int{-2, 9}, 1},
		{[]int{1 << 20}, 2}, {[]int{-1 << 20}, 1}, {[]int{1<<21 + 13, 0}, 2}, {make([]int, 1024), 0}, {append(make([]int, 1023), -1), 0}, {make([]int, 0, 4), 0}, {[]int{-4, 0}[:0], 0},
	} {
		if got := coefs.Sign(x.levels); got != x.want {
			t.Errorf("Sign(%v): %d, want %d", x.levels, got, x.want)
		}
	}
	for _, v := range far() {
		want := 2
		if v < 0 {
			want = 1
		}
		for _, l := range [][]int{{v}, {v, 0}, {v, -v, 1}} {
			if got := coefs.Sign(l); got != want {
				t.Errorf("Sign(%v): %d, want %d", l, got, want)
			}
		}
	}
}
