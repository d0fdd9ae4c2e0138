package modes_test

import (
	"fmt"
	"math"
	"slices"
	"testing"

	"zoetrope/api"
	"zoetrope/grid"
	"zoetrope/modes"
	"zoetrope/syms"
)

// samples are bytes of all sorts, none of which a writer need have written.
func samples() [][]byte {
	l := [][]byte{
		nil, {}, {0}, {1}, {255}, {128}, make([]byte, 100), {0, 0, 0, 0, 0, 1}, {255, 255, 255, 255}, {255, 255, 255, 254}, {127, 255, 192},
		slices.Repeat([]byte{255}, 300), slices.Repeat([]byte{0, 255}, 100), slices.Repeat([]byte{128, 0, 0, 0, 0}, 30), slices.Repeat([]byte{1}, 50),
	}
	d := draws(31)
	for n := range 40 {
		l = append(l, d.bytes(5*n))
	}
	return l
}

// Of any bytes, and behind their end, what the chapter tells is read, with any set, in any frame, with grids of all sorts; what is read may be, agrees, and can be written (P18.2, P18.5).
func TestAnyBytes(t *testing.T) {
	wrong := 0
	for i, bytes := range samples() {
		d := draws(i)
		for j, s := range sets(t) {
			tile, f := d.tile(), frames()[d.one(0, 0, 0, 1, 2, 3)]
			g := d.filled(t, tile, d.one(0, 5, 40))
			r, m := reader(t, bytes, s, j%2 == 0), reader(t, bytes, s, j%2 == 0)
			for range 20 {
				b := d.shape(tile)
				want, ok := source{t, m}.block(g, b, f)
				was := r.Count()
				got, e := modes.Code(r, g, b, f.key, f.lossless)
				if got != want || (e == api.OK) != ok || !ok && e != api.ErrSyntax {
					t.Fatalf("%x, set %d: %+v: %+v, %d, want %+v", bytes, j, b, got, e, want)
				}
				alike(t, fmt.Sprintf("%x", bytes), r, m)
				if n := r.Count() - was; n > 64 {
					t.Fatalf("%d symbols and bits of %+v", n, got)
				}
				wrong += one(!ok)
				if ok {
					reads(t, g, got, f)
				}
			}
		}
	}
	if wrong < 20 {
		t.Errorf("only %d blocks were wrong", wrong)
	}
}

// reads asks whether a block that was read may be, agrees, and is written as it was read.
func reads(t *testing.T, g *grid.Grid, b api.Block, f frame) {
	t.Helper()
	if !mayBe(b, f) {
		t.Fatalf("%+v was read of %+v", b, f)
	}
	checks(t, b, f, true)
	codes(t, writer(t, syms.Default(), false), g, b, f)
}

// No bytes, and noughts alone: each symbol is 0. All 255: each is the greatest one (P18.2).
func TestBytesAlike(t *testing.T) {
	g := gridOf(t, square())
	for _, s := range shapes() {
		for _, f := range frames() {
			for _, bytes := range [][]byte{nil, {}, {0}, make([]byte, 1000)} {
				r := reader(t, bytes, syms.Default(), true)
				for range 20 {
					codes(t, r, g, in(f, intra(0, 0, s[0], s[1])), f)
				}
			}
			r := reader(t, slices.Repeat([]byte{255}, 1000), syms.Default(), false)
			if f.key {
				b := in(f, skipped(intra(8, 0, s[0], s[1])))
				b.YMode, b.UVMode = 12, 12
				if !f.lossless {
					b.TxSize = min(s[0], s[1]) / 4
				}
				b.TxSize = max(b.TxSize, 4)
				if s[0] < 64 && s[1] < 64 {
					b.UVMode, b.CflU, b.CflV = 13, 16, 16
				}
				codes(t, r, g, b, f)
			} else {
				refused(t, r, g, shaped(8, 0, s[0], s[1]), f, api.ErrSyntax) // X and Y differ by as much as can be said
				if n := 6 + 1 + 2*13; r.Count() != n {
					t.Fatalf("%d symbols and bits were read, want %d", r.Count(), n)
				}
			}
		}
	}
}

// Whoever reads is handed a shape, and whatever stands beside it counts for nothing (P18.2).
func TestReaderTakesAnyFields(t *testing.T) {
	d := draws(19)
	for range 12 {
		tile, f := d.tile(), frames()[d.below(4)]
		g := d.filled(t, tile, 20)
		var l []api.Block
		w := writer(t, syms.Default(), true)
		for range 12 {
			b := d.block(t, g, d.shape(tile), f)
			codes(t, w, g, b, f)
			l = append(l, b)
		}
		for _, n := range append([]int{0, 1, -1, 2, 3, 13, 14, 64, most, -most - 1}, far()...) {
			for _, so := range []bool{true, false} {
				r := reader(t, written(t, w), syms.Default(), true)
				for _, b := range l {
					given := b
					for _, x := range fields()[4:] {
						*x.of(&given) = n
					}
					for i, flag := range flags() {
						*flag(&given) = so != (i == d.below(4))
					}
					if got, e := modes.Code(r, g, given, f.key, f.lossless); got != b || e != api.OK {
						t.Fatalf("%+v of %+v, handed in %+v: %+v, %d", b, f, given, got, e)
					}
				}
				alike(t, "fields that count for nothing", r, w)
			}
		}
	}
}

// ahead are the acts of a block that comes out of frames, up to its way to a vector.
func ahead(t *testing.T, g *grid.Grid, b api.Block, mode int) []act {
	t.Helper()
	b.MvMode = api.MvZero
	l := plan(t, g, b, plain)
	at := slices.IndexFunc(l, func(a act) bool { return a.kind == api.SymMvMode })
	l = l[:at+1]
	l[at].v = mode
	return l
}

// tooLong asks whether a reader of those acts, which end with a vector that has a part beyond MaxVec, says ErrSyntax behind them, and goes on there.
func tooLong(t *testing.T, g *grid.Grid, shape api.Block, l []act) {
	t.Helper()
	for _, adapt := range []bool{true, false} {
		w := writer(t, syms.Default(), adapt)
		does(t, w, l...)
		read, tables := w.Count(), set(t, w)
		behind := []act{symbol(api.SymFilter, 0, 2), symbol(api.SymMvJoint, 0, 3), raw(9, 333), symbol(api.SymObmc, 0, 1)}
		next := skipped(intra(0, 0, 8, 8))
		does(t, w, append(behind, plan(t, g, next, plain)...)...)
		r := reader(t, written(t, w), syms.Default(), adapt)
		refused(t, r, g, shape, plain, api.ErrSyntax)
		if r.Count() != read || !sameSet(set(t, r), tables) {
			t.Fatalf("%+v: %d symbols and bits were read, want %d, or other tables", l, r.Count(), read)
		}
		does(t, r, behind...)
		codes(t, r, g, next, plain)
		alike(t, "behind a vector that is too long", r, w)
	}
}

// A vector with a part just beyond MaxVec, and one as far beyond as can be said; of one vector, and of either of two: the other one isn't looked at, or was read before (P18.2).
func TestTooLong(t *testing.T) {
	joint := func(n int) act { return symbol(api.SymMvJoint, 0, n) }
	for from, amounts := range map[int][]int{4095: {1, 2, 8, 9, 4096, 8190, 8191, 16376}, 0: {4096, 4097, 8190, 16376}, 4000: {96, 97, 8000}, -4095: {8191, 8192, 16376}} {
		for _, sign := range []int{1, -1} {
			g := gridOf(t, square(), inter(8, 16, 8, 8, 1, vec(sign*from, sign*from)), inter(8, 32, 8, 8, 2, vec(sign*from, -sign*from)))
			for _, n := range amounts {
				one := skipped(inter(16, 16, 8, 8, 1, vec(0, 0)))
				two := skipped(comp(16, 16, 16, 8, 1, vec(0, 0), 0, vec(0, 0)))
				second := skipped(comp(16, 32, 16, 8, 0, vec(0, 0), 2, vec(0, 0)))
				for _, b := range []api.Block{one, two} {
					l := ahead(t, g, b, api.MvNew)
					tooLong(t, g, b, slices.Concat(l, []act{joint(1)}, planPart(0, sign*n)))
					tooLong(t, g, b, slices.Concat(l, []act{joint(2)}, planPart(1, sign*n)))
					tooLong(t, g, b, slices.Concat(l, []act{joint(3)}, planPart(0, sign*n), planPart(1, -sign)))
					tooLong(t, g, b, slices.Concat(l, []act{joint(3)}, planPart(0, -sign), planPart(1, sign*n)))
					tooLong(t, g, b, slices.Concat(l, []act{joint(3)}, planPart(0, sign*n), planPart(1, sign*n)))
				}
				l := ahead(t, g, second, api.MvNew)
				for _, first := range [][]act{{joint(0)}, slices.Concat([]act{joint(3)}, planPart(0, 4095), planPart(1, -4095))} {
					tooLong(t, g, second, slices.Concat(l, first, []act{joint(1)}, planPart(0, sign*n)))
					tooLong(t, g, second, slices.Concat(l, first, []act{joint(2)}, planPart(1, -sign*n)))
					tooLong(t, g, second, slices.Concat(l, first, []act{joint(3)}, planPart(0, -sign), planPart(1, -sign*n)))
				}
			}
		}
	}
}

// Vectors whose parts are just MaxVec, either way, are read, whatever they differ by (P18.2).
func TestJustNotTooLong(t *testing.T) {
	for _, from := range []api.Vec{vec(4095, 4095), vec(-4095, 4095), vec(4094, -4094), vec(0, 0)} {
		g := gridOf(t, square(), inter(8, 16, 8, 8, 1, from))
		for _, to := range []api.Vec{vec(4095, 4095), vec(-4095, -4095), vec(4095, -4095), vec(-4095, 4095), vec(4095, 0), vec(0, -4095)} {
			for _, b := range []api.Block{skipped(inter(16, 16, 8, 8, 1, to)), skipped(comp(16, 16, 8, 8, 1, to, 1, vec(to.Y, to.X)))} {
				w := writer(t, syms.Default(), true)
				does(t, w, plan(t, g, b, plain)...)
				r := reader(t, written(t, w), syms.Default(), true)
				codes(t, r, g, b, plain)
				alike(t, "vectors just not too long", r, w)
			}
		}
	}
}

// Grids take blocks whose vectors are longer than a block's may be: such a candidate can't be read, but what differs from it by so much that it may be, can (P18.2, P18.5).
func TestLongCandidates(t *testing.T) {
	for _, n := range []int{4096, -4096, 5000, -20000, math.MaxInt, math.MinInt, math.MaxInt32, math.MinInt32} {
		for _, v := range []api.Vec{vec(n, 0), vec(0, n), vec(n, n), vec(n, -n)} {
			g := gridOf(t, square(), inter(8, 16, 8, 8, 1, v), inter(8, 8, 8, 8, 0, vec(9, 9)))
			known(t, g, inter(8, 40, 8, 8, 2, vec(1, 1)), inter(16, 32, 8, 8, 2, v))
			for _, b := range []api.Block{inter(16, 16, 8, 8, 1, vec(0, 0)), comp(16, 16, 8, 8, 1, vec(0, 0), 1, vec(0, 0))} {
				tooLong(t, g, b, ahead(t, g, b, api.MvNearest))
				tooLong(t, g, b, append(ahead(t, g, b, api.MvNew), symbol(api.SymMvJoint, 0, 0)))
			}
			for _, b := range []api.Block{inter(16, 40, 8, 8, 2, vec(0, 0)), comp(16, 40, 8, 8, 0, vec(0, 0), 2, vec(0, 0))} {
				tooLong(t, g, b, ahead(t, g, b, api.MvNear))
			}
		}
	}
	g := gridOf(t, square(), inter(8, 16, 8, 8, 1, vec(5000, -5000)), inter(16, 8, 8, 8, 1, vec(7, 8)))
	for _, to := range []api.Vec{vec(4095, -4095), vec(0, 0), vec(-4095, 4095), vec(4000, -4095)} {
		b := skipped(inter(16, 16, 8, 8, 1, to))
		row(t, syms.Default(), true, g, plain, b, skipped(comp(16, 16, 8, 8, 1, to, 1, to)))
	}
	b := skipped(inter(16, 16, 8, 8, 1, vec(7, 8)))
	b.MvMode = api.MvNear
	row(t, syms.Default(), true, g, plain, b)
}

// What a writer can't say is refused ahead of anything being written: a vector that differs from its candidate by more than the greatest class (P18.2).
func TestTooFarApart(t *testing.T) {
	w, was := writer(t, syms.Default(), true), writer(t, syms.Default(), true)
	for _, sign := range []int{1, -1} {
		for _, n := range []int{16377, 16378, 20000, 1 << 20, math.MaxInt32 - 4095, math.MaxInt - 4095, math.MaxInt} {
			for _, v := range []api.Vec{vec(n*sign, 5), vec(5, n*sign), vec(n*sign, -n*sign)} {
				g := gridOf(t, square(), inter(8, 16, 8, 8, 1, v), inter(8, 32, 8, 8, 2, vec(5, 5)))
				refused(t, w, g, skipped(inter(16, 16, 8, 8, 1, vec(0, 0))), plain, api.ErrArg)
				refused(t, w, g, skipped(comp(16, 16, 8, 8, 0, vec(0, 0), 1, vec(0, 0))), plain, api.ErrArg)
				refused(t, w, g, skipped(comp(16, 16, 8, 8, 1, vec(0, 0), 0, vec(0, 0))), plain, api.ErrArg)
			}
		}
		far := sign * (16376 - 4095)
		g := gridOf(t, square(), inter(8, 16, 8, 8, 1, vec(far, -far)))
		to := sign * -4095
		row(t, syms.Default(), true, g, plain, skipped(inter(16, 16, 8, 8, 1, vec(to, -to))), skipped(inter(16, 16, 8, 8, 1, vec(-to, to))))
		g = gridOf(t, square(), inter(8, 16, 8, 8, 1, vec(far+sign, 0)), inter(8, 32, 8, 8, 1, vec(0, far+sign)))
		for y, v := range map[int]api.Vec{16: vec(to, 0), 32: vec(0, to)} {
			refused(t, w, g, skipped(inter(16, y, 8, 8, 1, v)), plain, api.ErrArg)
			refused(t, w, g, skipped(comp(16, y, 8, 8, 1, v, 1, vec(0, 0))), plain, api.ErrArg)
			refused(t, w, g, skipped(comp(16, y, 8, 8, 1, vec(0, 0), 1, v)), plain, api.ErrArg)
			row(t, syms.Default(), true, g, plain, skipped(comp(16, y, 8, 8, 1, vec(0, 0), 1, vec(v.X+sign, v.Y+sign))))
		}
	}
	alike(t, "vectors too far apart", w, was)
}

// Bytes that end too early are read on as if there were noughts behind them (P18.2, P18.5).
func TestTooFewBytes(t *testing.T) {
	d := draws(33)
	tile := square()
	g := d.filled(t, tile, 12)
	w := writer(t, syms.Default(), true)
	var l []api.Block
	for range 30 {
		b := d.block(t, g, d.shape(tile), plain)
		codes(t, w, g, b, plain)
		l = append(l, b)
	}
	bytes := written(t, w)
	for n := range bytes {
		short := reader(t, bytes[:n], syms.Default(), true)
		long := reader(t, append(slices.Clone(bytes[:n]), make([]byte, 900)...), syms.Default(), true)
		for _, b := range l {
			x, e := modes.Code(short, g, b, false, false)
			y, f := modes.Code(long, g, b, false, false)
			if x != y || e != f || e != api.OK && e != api.ErrSyntax {
				t.Fatalf("%d bytes: %+v, %d and %+v, %d", n, x, e, y, f)
			}
		}
		alike(t, "bytes that end too early", short, long)
	}
}
