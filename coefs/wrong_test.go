package coefs_test

import (
	"math"
	"slices"
	"testing"

	"zoetrope/api"
	"zoetrope/syms"
)

// started are a writer and a reader that have coded something, each with a twin that has coded the same.
func started(t *testing.T) [2][2]*syms.Coder {
	t.Helper()
	d := draws(41)
	l, bytes := d.blocks(3), d.bytes(90)
	var all [2][2]*syms.Coder
	for i := range 2 {
		w, r := writer(t, syms.Default(), true), reader(t, bytes, syms.Default(), true)
		for _, b := range l {
			codes(t, w, b)
		}
		readBy(t, r, l[0])
		all[0][i], all[1][i] = w, r
	}
	return all
}

// goesOn asks whether two coders stand alike, and go on alike.
func goesOn(t *testing.T, what string, a, b *syms.Coder) {
	t.Helper()
	alike(t, what, a, b)
	d := draws(17)
	for _, x := range d.blocks(6) {
		if a.Writes() {
			codes(t, a, x)
			codes(t, b, x)
		} else {
			codes(t, a, block{x.size, x.plane, x.sign, readBy(t, b, x)})
		}
		alike(t, what+", and further on", a, b)
	}
}

// readBy is what the model reads.
func readBy(t *testing.T, c *syms.Coder, b block) []int {
	t.Helper()
	l, ok := source{t, c}.block(b.size, b.plane, b.sign)
	if !ok {
		t.Fatal("the bytes that were chosen can't be read")
	}
	return l
}

// A coder that is none, whatever is handed in beside it, wrong or not (P11.1).
func TestNoCoder(t *testing.T) {
	var none syms.Coder
	for _, c := range []*syms.Coder{nil, &none, new(syms.Coder)} {
		for _, size := range append(sizes(), 0, 5, -4, 128, math.MaxInt, math.MinInt) {
			for _, plane := range []int{0, 2, -1, 3, math.MinInt} {
				for _, sign := range []int{0, 2, -1, 3, math.MaxInt} {
					for _, l := range [][]int{nil, {}, {math.MinInt}, make([]int, 16), make([]int, 1024)} {
						refused(t, c, block{size, plane, sign, l}, api.ErrNil)
					}
				}
			}
		}
	}
}

// Sizes that are none, of both sides; a writer and a reader are left as they were (P11.1).
func TestWrongSizes(t *testing.T) {
	for _, pair := range started(t) {
		for _, size := range noSizes() {
			for _, l := range [][]int{nil, {}, {1}, make([]int, 16), make([]int, 1024), make([]int, 4096)} {
				refused(t, pair[0], block{size, 0, 0, l}, api.ErrArg)
			}
			if size >= -256 && size <= 256 {
				refused(t, pair[0], block{size, 1, 2, make([]int, size*size)}, api.ErrArg)
			}
		}
		goesOn(t, "sizes that are none", pair[0], pair[1])
	}
}

// Every size is taken, of both sides (P11.1).
func TestSizes(t *testing.T) {
	for _, size := range sizes() {
		for plane := range 3 {
			for sign := range 3 {
				planned(t, syms.Default(), true, with(size, plane, sign, map[int]int{0: -2, 3: 4}))
			}
		}
	}
}

// Planes and signs at both ends are taken, none beyond them is, of both sides (P11.1).
func TestWrongPlanesAndSigns(t *testing.T) {
	wrong := append([]int{-1, -2, -3, 3, 4, 5, 6, 255, 256, 257, 65536, -65536}, far()...)
	for _, pair := range started(t) {
		for _, v := range wrong {
			for _, size := range sizes() {
				l := make([]int, places(size))
				for good := range 3 {
					refused(t, pair[0], block{size, v, good, l}, api.ErrArg)
					refused(t, pair[0], block{size, good, v, l}, api.ErrArg)
				}
				refused(t, pair[0], block{size, v, v, l}, api.ErrArg)
				refused(t, pair[0], block{size, v, 0, nil}, api.ErrArg)
				refused(t, pair[0], block{size, 0, v, nil}, api.ErrArg)
			}
		}
		goesOn(t, "planes and signs that are none", pair[0], pair[1])
	}
}

// counts are how many levels a list may have that is too short or too long, or just right.
func counts(size int) []int {
	n, side := places(size), sideOf(size)
	return []int{0, 1, 2, 15, 16, 17, 63, 64, 65, 255, 256, 257, 1023, 1024, 1025, 4095, 4096, 4097, side, side * (side - 1), side * (side + 1), n - 1, n, n + 1, 2 * n}
}

// Of a writer lists of levels that are nil, too short or too long are refused, and nothing is written; those just right are taken (P11.1).
func TestHowManyLevels(t *testing.T) {
	for _, size := range sizes() {
		w, quiet := started(t)[0][0], started(t)[0][1]
		n := places(size)
		for _, many := range counts(size) {
			if many == n {
				continue
			}
			refused(t, w, block{size, 0, 0, make([]int, many)}, api.ErrArg)
			refused(t, w, block{size, 2, 1, slices.Repeat([]int{1}, many)}, api.ErrArg)
		}
		refused(t, w, block{size, 0, 0, nil}, api.ErrArg)
		refused(t, w, block{size, 0, 0, []int{}}, api.ErrArg)
		refused(t, w, block{size, 0, 0, make([]int, n-1, 2*n)}, api.ErrArg) // spare room counts for nothing
		goesOn(t, "lists too short or too long", w, quiet)
		codes(t, w, block{size, 0, 0, make([]int, n)})
		codes(t, w, block{size, 0, 0, slices.Repeat([]int{1}, n)})
	}
}

// Of a reader levels count for nothing: nil, too short, too long, such as no writer takes (P11.1).
func TestReaderTakesAnyLevels(t *testing.T) {
	d := draws(19)
	l := d.blocks(12)
	w := writer(t, syms.Default(), true)
	for _, b := range l {
		codes(t, w, b)
	}
	for _, v := range []int{0, 1, -1, 15, 1<<20 + 1, math.MaxInt, math.MinInt} {
		for k := range 25 {
			r := reader(t, written(t, w), syms.Default(), true)
			for _, b := range l {
				given := b
				given.levels = slices.Repeat([]int{v}, counts(b.size)[k])
				readsBeside(t, r, given, b.levels)
			}
			if !sameSet(set(t, r), set(t, w)) || r.Count() != w.Count() {
				t.Fatalf("levels %d: another count or other tables", v)
			}
		}
	}
}

// Levels at both ends of what may be written are; none just beyond them or far away is, wherever it stands (P11.1).
func TestWrongLevels(t *testing.T) {
	const most = 1 << 20
	wrong := append([]int{most + 1, -most - 1, most + 2, -most - 2, 2 * most, -2 * most, 1<<21 + 13, 1 << 24, -1 << 24}, far()...)
	w, quiet := started(t)[0][0], started(t)[0][1]
	for _, size := range sizes() {
		n := places(size)
		for _, v := range wrong {
			for _, at := range []int{0, 1, n / 2, n - 1} {
				refused(t, w, with(size, 0, 0, map[int]int{at: v}), api.ErrArg)
				refused(t, w, with(size, 2, 2, map[int]int{0: 1, n - 1: -1, at: v}), api.ErrArg)
			}
			refused(t, w, block{size, 0, 0, slices.Repeat([]int{v}, n)}, api.ErrArg)
		}
	}
	for at := range 64 {
		refused(t, w, with(8, 1, 1, map[int]int{at: most + 1}), api.ErrArg)
		refused(t, w, with(8, 1, 1, map[int]int{at: -most - 1}), api.ErrArg)
	}
	goesOn(t, "levels that are too great", w, quiet)
	for _, size := range sizes() {
		for _, v := range []int{most, -most, most - 1, 1 - most} {
			for _, at := range []int{0, 1, places(size) - 1} {
				codes(t, w, with(size, 0, 0, map[int]int{at: v}))
			}
		}
	}
}

// Where several things are wrong it is ErrArg too, and nothing stands beside it (P11.1).
func TestSeveralWrong(t *testing.T) {
	for _, pair := range started(t) {
		for _, size := range []int{4, 5, 0, -1, 64, 65} {
			for _, plane := range []int{-1, 3} {
				for _, sign := range []int{-1, 3} {
					for _, l := range [][]int{nil, {1}, {math.MinInt}, make([]int, 16), slices.Repeat([]int{math.MaxInt}, 16)} {
						refused(t, pair[0], block{size, plane, sign, l}, api.ErrArg)
					}
				}
			}
		}
		goesOn(t, "several things wrong", pair[0], pair[1])
	}
}
