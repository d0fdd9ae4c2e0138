package modes_test

import (
	"bytes"
	"math"
	"math/bits"
	"slices"
	"testing"

	"zoetrope/api"
	"zoetrope/grid"
	"zoetrope/modes"
	"zoetrope/syms"
)

// What is expected is worked out by none of the package's own calls.

const most = api.MaxVec

func rect(x, y, w, h int) api.Rect { return api.Rect{X: x, Y: y, W: w, H: h} }

func vec(x, y int) api.Vec { return api.Vec{X: x, Y: y} }

// frame is what a frame's header says that counts for its blocks.
type frame struct{ key, lossless bool }

var plain = frame{}

func frames() []frame {
	return []frame{{false, false}, {true, false}, {false, true}, {true, true}}
}

// shapes are all that may be.
func shapes() [][2]int {
	return [][2]int{
		{8, 8}, {8, 16}, {8, 32}, {16, 8}, {16, 16}, {16, 32}, {16, 64},
		{32, 8}, {32, 16}, {32, 32}, {32, 64}, {64, 16}, {64, 32}, {64, 64},
	}
}

func sides() []int { return []int{8, 16, 32, 64} }

// square is the tile of the chapter's examples.
func square() api.Rect { return rect(0, 0, 64, 64) }

// shaped is a block of a shape alone.
func shaped(x, y, w, h int) api.Block { return api.Block{X: x, Y: y, W: w, H: h} }

// intra is a block that may be, of a frame that loses something.
func intra(x, y, w, h int) api.Block {
	b := shaped(x, y, w, h)
	b.TxSize = min(w, h)
	return b
}

// inter is a block that comes out of the frame ref, moved by v.
func inter(x, y, w, h, ref int, v api.Vec) api.Block {
	b := intra(x, y, w, h)
	b.Inter, b.Ref[0], b.MvMode, b.Mv[0] = true, ref, api.MvNew, v
	return b
}

// comp is one that comes out of two frames.
func comp(x, y, w, h, ref int, v api.Vec, second int, u api.Vec) api.Block {
	b := inter(x, y, w, h, ref, v)
	b.Comp, b.Ref[1], b.Mv[1] = true, second, u
	return b
}

// but is a block changed.
func but(b api.Block, change func(*api.Block)) api.Block {
	change(&b)
	return b
}

// skipped is a block that is Skip.
func skipped(b api.Block) api.Block { return but(b, func(b *api.Block) { b.Skip = true }) }

// in is a block of a frame that loses nothing, if it is to be.
func in(f frame, b api.Block) api.Block {
	if f.lossless {
		b.TxSize = 4
	}
	return b
}

// far are numbers far away, some of whose lower bits look as if they might be right.
func far() []int {
	l := []int{math.MaxInt, math.MaxInt - 1, math.MaxInt - 7, math.MinInt, math.MinInt + 1, math.MinInt + 8, math.MinInt + 64, math.MaxInt32, math.MaxInt32 - 7, math.MinInt32, math.MinInt32 + 8, 1 << 30, -1 << 30, 1<<30 + 8, 1 << 16, 1<<16 + 8, -1 << 16}
	if bits.UintSize > 32 {
		for _, v := range []int{0, 1, 2, 3, 4, 8, 13, 16, 64, -1, -3} {
			for _, at := range []int{32, 33, 40, 48, 62, 63} {
				l = append(l, v+1<<at, v-1<<at)
			}
		}
	}
	return l
}

// all are the numbers about those that count for a field, and others that are far away.
func all() []int {
	var l []int
	for n := -80; n <= 330; n++ {
		l = append(l, n)
	}
	for _, n := range []int{most, 8190, 16376, 1 << 12, 1 << 13} {
		for by := -9; by <= 9; by++ {
			l = append(l, n+by, -n+by)
		}
	}
	return append(l, far()...)
}

// draws is a row of numbers that look mixed and are always the same.
type draws uint64

func (d *draws) below(n int) int {
	*d = *d*6364136223846793005 + 1442695040888963407
	return int(uint64(*d) >> 33 % uint64(n))
}

// one is any of a list.
func (d *draws) one(l ...int) int { return l[d.below(len(l))] }

func (d *draws) is(of int) bool { return d.below(of) == 0 }

func (d *draws) bytes(n int) []byte {
	b := make([]byte, n)
	for i := range b {
		b[i] = byte(d.below(256))
	}
	return b
}

// tile is any that may be.
func (d *draws) tile() api.Rect {
	way := func() (int, int) {
		from := 64 * d.below(4)
		return from, 8 * (1 + d.below(min(256-from, d.one(16, 64, 128, 256))/8))
	}
	var r api.Rect
	r.X, r.W = way()
	r.Y, r.H = way()
	return r
}

// shape is any that may be, at a place of a tile: it may reach beyond it.
func (d *draws) shape(tile api.Rect) api.Block {
	s := shapes()[d.below(len(shapes()))]
	if d.is(2) {
		s = shapes()[d.below(5)] // more of the small ones
	}
	return shaped(tile.X+8*d.below(tile.W/8), tile.Y+8*d.below(tile.H/8), s[0], s[1])
}

// part is any that a vector may have: small ones, those at the ends, and others.
func (d *draws) part() int {
	return d.one(0, 0, 1, -1, d.below(17)-8, d.below(200)-100, d.below(2*most+1)-most, most, -most)
}

// vecAt is a vector beside another one, or the same in one part or in both, or any.
func (d *draws) vecAt(v api.Vec) api.Vec {
	part := func(n int) int {
		switch d.below(4) {
		case 0:
			return n
		case 1:
			return max(-most, min(most, n+d.below(65)-32))
		}
		return d.part()
	}
	return vec(part(v.X), part(v.Y))
}

// delta is one of a mode that may be.
func (d *draws) delta(mode int) int {
	if mode < 1 || mode > 8 {
		return 0
	}
	return d.below(7) - 3
}

// block is any that may be of that shape, and agrees with the grid.
func (d *draws) block(t *testing.T, g *grid.Grid, b api.Block, f frame) api.Block {
	t.Helper()
	b = shaped(b.X, b.Y, b.W, b.H)
	b.Skip = d.is(3)
	b.Inter = !f.key && !d.is(3)
	b.TxSize = d.one(sizesOf(b, f)...)
	if b.Inter {
		return d.moved(t, g, b)
	}
	b.YMode, b.UVMode = d.below(13), d.below(13)
	if b.W <= 32 && b.H <= 32 && d.is(2) {
		b.UVMode = api.ModeCfl
		b.CflU, b.CflV = d.one(0, -16, 16, d.below(33)-16), d.one(0, -16, 16, d.below(33)-16)
		if b.CflU == 0 && b.CflV == 0 {
			b.CflU = 1
		}
	}
	b.YDelta, b.UVDelta = d.delta(b.YMode), d.delta(b.UVMode)
	return b
}

func (d *draws) moved(t *testing.T, g *grid.Grid, b api.Block) api.Block {
	t.Helper()
	b.Comp = d.is(2)
	b.Obmc = !b.Comp && d.is(2)
	b.MvMode, b.Filter = d.below(4), d.below(3)
	for i := range 2 {
		if i == 1 && !b.Comp {
			break
		}
		b.Ref[i] = d.below(3)
		near, _ := candidates(t, g, b, b.Ref[i])
		b.Mv[i] = [4]api.Vec{near[0], near[1], {}, d.vecAt(near[0])}[b.MvMode]
	}
	return b
}

// filled is a grid of a tile that knows some blocks.
func (d *draws) filled(t *testing.T, tile api.Rect, many int) *grid.Grid {
	t.Helper()
	g := gridOf(t, tile)
	for range many {
		g.Put(d.block(t, g, d.shape(tile), plain)) // where there is room
	}
	return g
}

// set is one whose tables are all sorts; the lesser the bound, the likelier each kind's greatest value.
func (d *draws) set(t *testing.T, bound int) api.Set {
	t.Helper()
	s := syms.Default()
	for k := range s.T {
		for i := range s.T[k] {
			c := s.T[k][i].C
			for j := range c[:len(c)-1] {
				c[j] = uint16(d.below(bound))
			}
			slices.Sort(c)
			s.T[k][i].Count = d.below(33)
		}
	}
	if e := syms.Check(s); e != api.OK {
		t.Fatalf("a set: %d", e)
	}
	return s
}

// sets are some that may be: the default one, mixed ones, and one in which the greatest values are the likeliest.
func sets(t *testing.T) []api.Set {
	t.Helper()
	d := draws(70)
	return []api.Set{syms.Default(), d.set(t, 32769), d.set(t, 32769), d.set(t, 9000)}
}

func gridOf(t *testing.T, tile api.Rect, l ...api.Block) *grid.Grid {
	t.Helper()
	g, e := grid.New(tile)
	if e != api.OK {
		t.Fatalf("New(%v): %d", tile, e)
	}
	known(t, g, l...)
	return g
}

func known(t *testing.T, g *grid.Grid, l ...api.Block) {
	t.Helper()
	for _, b := range l {
		if e := g.Put(b); e != api.OK {
			t.Fatalf("Put(%v): %d", b, e)
		}
	}
}

func candidates(t *testing.T, g *grid.Grid, b api.Block, ref int) ([2]api.Vec, int) {
	t.Helper()
	near, n, e := g.Vecs(rect(b.X, b.Y, b.W, b.H), ref)
	if e != api.OK {
		t.Fatalf("Vecs of %v, %d: %d", b, ref, e)
	}
	return near, n
}

func writer(t *testing.T, s api.Set, adapt bool) *syms.Coder {
	t.Helper()
	c, e := syms.Writer(s, adapt)
	if e != api.OK {
		t.Fatalf("Writer: %d", e)
	}
	return c
}

func reader(t *testing.T, b []byte, s api.Set, adapt bool) *syms.Coder {
	t.Helper()
	c, e := syms.Reader(b, s, adapt)
	if e != api.OK {
		t.Fatalf("Reader: %d", e)
	}
	return c
}

// set is a coder's set, which must be told.
func set(t *testing.T, c *syms.Coder) api.Set {
	t.Helper()
	s, e := c.Set()
	if e != api.OK {
		t.Fatalf("Set: %d", e)
	}
	return s
}

func written(t *testing.T, c *syms.Coder) []byte {
	t.Helper()
	b, e := c.Bytes()
	if e != api.OK {
		t.Fatalf("Bytes: %d", e)
	}
	return b
}

func sameTable(a, b api.Table) bool { return slices.Equal(a.C, b.C) && a.Count == b.Count }

func sameSet(a, b api.Set) bool {
	return slices.EqualFunc(a.T, b.T, func(k, l []api.Table) bool { return slices.EqualFunc(k, l, sameTable) })
}

// alike asks whether two coders stand alike: counts, tables, and what was written.
func alike(t *testing.T, what string, a, b *syms.Coder) {
	t.Helper()
	if a.Count() != b.Count() {
		t.Fatalf("%s: counts %d and %d", what, a.Count(), b.Count())
	}
	if !sameSet(set(t, a), set(t, b)) {
		t.Fatalf("%s: the tables are not the same", what)
	}
	if a.Writes() && b.Writes() {
		if x, y := written(t, a), written(t, b); !bytes.Equal(x, y) {
			t.Fatalf("%s: bytes %x and %x", what, x, y)
		}
	}
}

// codes has a coder code a block, which must answer it. Whoever reads is handed the shape alone.
func codes(t *testing.T, c *syms.Coder, g *grid.Grid, b api.Block, f frame) {
	t.Helper()
	given := b
	if !c.Writes() {
		given = shaped(b.X, b.Y, b.W, b.H)
	}
	if got, e := modes.Code(c, g, given, f.key, f.lossless); got != b || e != api.OK {
		t.Fatalf("%+v of %+v: %+v, %d", b, f, got, e)
	}
}

// refused asks for an error, and for nothing beside it.
func refused(t *testing.T, c *syms.Coder, g *grid.Grid, b api.Block, f frame, want api.Errno) {
	t.Helper()
	if got, e := modes.Code(c, g, b, f.key, f.lossless); got != (api.Block{}) || e != want {
		t.Fatalf("%+v of %+v: %+v, %d, want %d", b, f, got, e, want)
	}
}
