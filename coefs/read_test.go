package coefs_test

import (
	"fmt"
	"slices"
	"testing"

	"zoetrope/api"
	"zoetrope/coefs"
	"zoetrope/syms"
)

// readsBeside asks a reader for levels, whatever is handed in.
func readsBeside(t *testing.T, r *syms.Coder, given block, want []int) {
	t.Helper()
	if got, e := coefs.Code(r, given.size, given.plane, given.sign, given.levels); !slices.Equal(got, want) || e != api.OK {
		t.Fatalf("size %d, plane %d: read %v, %d, want %v", given.size, given.plane, got, e, want)
	}
}

// samples are bytes of all sorts, none of which a writer need have written.
func samples() [][]byte {
	l := [][]byte{
		nil, {}, {0}, {1}, {255}, {128}, make([]byte, 100), {0, 0, 0, 0, 0, 1}, {255, 255, 255, 255}, {255, 255, 255, 254}, {127, 255, 192},
		slices.Repeat([]byte{255}, 300), slices.Repeat([]byte{0, 255}, 100), slices.Repeat([]byte{128, 0, 0, 0, 0}, 30), slices.Repeat([]byte{1}, 50),
	}
	d := draws(31)
	for n := range 40 {
		l = append(l, d.bytes(n*n))
	}
	return l
}

// Of any bytes, and behind their end, what the chapter tells is read, with any set (P11.1, P11.4).
func TestAnyBytes(t *testing.T) {
	for i, bytes := range samples() {
		d := draws(i)
		for j, s := range sets(t) {
			r, m := reader(t, bytes, s, j%2 == 0), reader(t, bytes, s, j%2 == 0)
			for range 12 {
				b := d.block()
				want, ok := source{t, m}.block(b.size, b.plane, b.sign)
				was := r.Count()
				got, e := coefs.Code(r, b.size, b.plane, b.sign, nil)
				if !slices.Equal(got, want) || (e == api.OK) != ok || !ok && e != api.ErrSyntax {
					t.Fatalf("%x, set %d: size %d: %v, %d, want %v", bytes, j, b.size, got, e, want)
				}
				alike(t, fmt.Sprintf("%x", bytes), r, m)
				bounded(t, got, r.Count()-was, places(b.size))
			}
		}
	}
}

// bounded asks for the bounds of what is read: amounts, symbols and bits (P11.4, W5).
func bounded(t *testing.T, levels []int, count, n int) {
	t.Helper()
	for _, v := range levels {
		if v > 1<<21+13 || v < -1<<21-13 {
			t.Fatalf("a level %d was read", v)
		}
	}
	if count < 1 || count > 64*n+12 {
		t.Fatalf("%d symbols and bits of %d levels", count, n)
	}
}

// No bytes, and noughts alone: each block is a 1 at the place 0. All 255: each is noughts (P11.1).
func TestBytesAlike(t *testing.T) {
	for _, size := range sizes() {
		for plane := range 3 {
			for _, bytes := range [][]byte{nil, {}, {0}, make([]byte, 1000)} {
				for _, adapt := range []bool{true, false} {
					r := reader(t, bytes, syms.Default(), adapt)
					for range 50 {
						readsBeside(t, r, block{size, plane, 2, nil}, with(size, plane, 2, map[int]int{0: 1}).levels)
					}
					if r.Count() != 200 {
						t.Errorf("noughts: %d symbols and bits", r.Count())
					}
				}
			}
			r := reader(t, slices.Repeat([]byte{255}, 1000), syms.Default(), true)
			for range 50 {
				readsBeside(t, r, block{size, plane, 0, nil}, make([]int, places(size)))
			}
			if r.Count() != 50 {
				t.Errorf("all 255: %d symbols", r.Count())
			}
		}
	}
}

// ahead are the acts of a block up to where a length begins: at the end's own place, or at the place 0 with a 2 behind it.
func ahead(size, plane int, last bool) []act {
	kind, zero := kindOf(size)
	colour := min(plane, 1)
	l := []act{symbol(api.SymZero, 2*colour+zero, 0)}
	more := symbol(api.SymMore, 7*colour, 3)
	if last {
		l = append(l, symbol(kind, colour, 0), symbol(api.SymLast, colour, 2))
	} else {
		l = append(l, symbol(kind, colour, 1), symbol(api.SymLast, colour, 1), symbol(api.SymBase, 5*colour+1, 3))
		more.context++
	}
	return append(l, more, more, more, more)
}

// Lengths of up to 20 bits 0, by the acts themselves: the least one and the greatest one of each; no more than 2^21 + 13 is ever read (P11.1, P11.4).
func TestLengths(t *testing.T) {
	for noughts := range 21 {
		for _, last := range []bool{true, false} {
			for _, rest := range []int{0, 1<<noughts - 1, 1 << noughts / 3} {
				for plane := range 3 {
					l := ahead(8, plane, last)
					for range noughts {
						l = append(l, plain(1, 0))
					}
					l = append(l, plain(1, 1), plain(noughts, rest))
					want := with(8, plane, 1, map[int]int{0: -(14 + 1<<noughts + rest)}).levels
					l = append(l, symbol(api.SymDcSign, 3*min(plane, 1)+1, 1))
					if !last {
						want[1] = 2
						l = append(l, plain(1, 0))
					}
					w := writer(t, syms.Default(), true)
					does(t, w, append(l, plain(7, 77))...)
					r := reader(t, written(t, w), syms.Default(), true)
					readsBeside(t, r, block{8, plane, 1, nil}, want)
					does(t, r, plain(7, 77))
					alikeRead(t, r, w)
				}
			}
		}
	}
}

// alikeRead asks whether a reader has read all that a writer has written.
func alikeRead(t *testing.T, r, w *syms.Coder) {
	t.Helper()
	if r.Count() != w.Count() || !sameSet(set(t, r), set(t, w)) {
		t.Fatalf("read %d symbols and bits, %d were written, or other tables", r.Count(), w.Count())
	}
}

// The greatest level that can be read, and its contrary, at places of all sorts (P11.4).
func TestGreatestRead(t *testing.T) {
	for sign, want := range []int{1<<21 + 13, -(1<<21 + 13)} {
		w := writer(t, syms.Default(), true)
		for range 3 {
			does(t, w, ahead(32, 1, true)...)
			does(t, w, plain(20, 0), plain(1, 1), plain(20, 1<<20-1), symbol(api.SymDcSign, 3, sign))
		}
		r := reader(t, written(t, w), syms.Default(), true)
		for range 3 {
			readsBeside(t, r, block{32, 1, 0, nil}, with(32, 1, 0, map[int]int{0: want}).levels)
		}
		alikeRead(t, r, w)
	}
}

// More than 20 bits 0 ahead of the bit 1 of a length are ErrSyntax behind the 21st, whatever follows; what was read is read, and the reader goes on behind it (P11.1).
func TestTooLong(t *testing.T) {
	for noughts := 21; noughts <= 45; noughts++ {
		for _, last := range []bool{true, false} {
			for _, size := range sizes() {
				for plane := range 3 {
					for _, adapt := range []bool{true, false} {
						tooLong(t, ahead(size, plane, last), noughts, block{size, plane, noughts % 3, nil}, adapt)
					}
				}
			}
		}
	}
}

func tooLong(t *testing.T, l []act, noughts int, b block, adapt bool) {
	t.Helper()
	w := writer(t, syms.Default(), adapt)
	does(t, w, l...)
	does(t, w, plain(21, 0))
	read, tables := w.Count(), set(t, w)
	for range noughts - 21 {
		does(t, w, plain(1, 0))
	}
	behind := []act{plain(1, 1), plain(9, 333), symbol(api.SymSkip, 1, 1)}
	next := with(16, 0, 0, map[int]int{0: 4, 40: -19})
	does(t, w, append(behind, plan(next)...)...)
	r := reader(t, written(t, w), syms.Default(), adapt)
	refused(t, r, b, api.ErrSyntax)
	if r.Count() != read || !sameSet(set(t, r), tables) {
		t.Fatalf("%d noughts, size %d: %d symbols and bits were read, want %d", noughts, b.size, r.Count(), read)
	}
	for range noughts - 21 {
		does(t, r, plain(1, 0))
	}
	does(t, r, behind...)
	codes(t, r, next)
	alikeRead(t, r, w)
}

// Behind bytes that end within a length there are noughts: ErrSyntax; and again, a block later (P11.1, P11.4).
func TestEndsWithinLength(t *testing.T) {
	w := writer(t, syms.Default(), true)
	does(t, w, ahead(4, 0, true)...)
	r := reader(t, written(t, w), syms.Default(), true)
	refused(t, r, block{4, 0, 0, nil}, api.ErrSyntax)
	if r.Count() != w.Count()+21 {
		t.Errorf("%d symbols and bits were read", r.Count())
	}
	readsBeside(t, r, block{4, 0, 0, nil}, with(4, 0, 0, map[int]int{0: 1}).levels)
}

// Bytes that end too early are read on as if there were noughts behind them (P11.4).
func TestTooFewBytes(t *testing.T) {
	d := draws(33)
	l := d.blocks(8)
	w := writer(t, syms.Default(), true)
	for _, b := range l {
		codes(t, w, b)
	}
	all := written(t, w)
	for n := 0; n < len(all); n += 1 + n/7 {
		short := reader(t, all[:n], syms.Default(), true)
		long := reader(t, append(slices.Clone(all[:n]), make([]byte, 9000)...), syms.Default(), true)
		for _, b := range l {
			x, e := coefs.Code(short, b.size, b.plane, b.sign, nil)
			y, f := coefs.Code(long, b.size, b.plane, b.sign, nil)
			if !slices.Equal(x, y) || e != f || e != api.OK && e != api.ErrSyntax {
				t.Fatalf("%d bytes: %v, %d and %v, %d", n, x, e, y, f)
			}
		}
		alike(t, "bytes that end too early", short, long)
	}
}
