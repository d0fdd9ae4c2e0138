package grid_test

import (
	"math"
	"math/bits"
	"slices"
	"testing"

	"zoetrope/api"
	"zoetrope/grid"
)

// What is expected is worked out by none of the package's own calls.

func rect(x, y, w, h int) api.Rect { return api.Rect{X: x, Y: y, W: w, H: h} }

func vec(x, y int) api.Vec { return api.Vec{X: x, Y: y} }

func block(x, y, w, h int) api.Block { return api.Block{X: x, Y: y, W: w, H: h} }

// moved is a block that comes out of one frame.
func moved(x, y, w, h, ref int, v api.Vec) api.Block {
	b := block(x, y, w, h)
	b.Inter, b.Ref[0], b.Mv[0] = true, ref, v
	return b
}

func sides() []int { return []int{8, 16, 32, 64} }

func sizes() []int { return []int{64, 32, 16} }

// starts are where tiles may begin.
func starts() []int { return []int{0, 64, 128, 192} }

// far are numbers far away, some of whose lower bits look as if they might be right.
func far() []int {
	l := []int{math.MaxInt, math.MaxInt - 1, math.MaxInt - 7, math.MaxInt - 63, math.MinInt, math.MinInt + 1, math.MinInt + 8, math.MinInt + 64, math.MaxInt32, math.MaxInt32 - 7, math.MaxInt32 - 63, math.MinInt32, math.MinInt32 + 8, math.MinInt32 + 64, 1 << 30, -1 << 30, 1<<30 + 8, 1<<30 + 64, 256, 264, 320, 512, 1 << 16, 1<<16 + 8, 1<<16 + 64, -1 << 16, -256, -64}
	if bits.UintSize > 32 {
		for _, v := range []int{0, 1, 2, 8, 16, 32, 64, 128, -1, -8} {
			for at := 32; at < bits.UintSize; at++ {
				l = append(l, v+1<<at, v-1<<at)
			}
		}
	}
	return l
}

// no are the numbers about what is asked for that are none of these, those that are far away too.
func no(asked ...int) []int {
	var l []int
	for n := -140; n <= 340; n++ {
		if !slices.Contains(asked, n) {
			l = append(l, n)
		}
	}
	for _, n := range far() {
		if !slices.Contains(asked, n) {
			l = append(l, n)
		}
	}
	return l
}

// draws is a row of numbers that look mixed and are always the same.
type draws uint64

func (d *draws) below(n int) int {
	*d = *d*6364136223846793005 + 1442695040888963407
	return int(uint64(*d) >> 33 % uint64(n))
}

// one is any of a list.
func (d *draws) one(l ...int) int { return l[d.below(len(l))] }

// tile is any that may be.
func (d *draws) tile() api.Rect {
	way := func() (int, int) {
		from := d.one(starts()...)
		most := min(256-from, d.one(16, 64, 128, 256)) / 8
		return from, 8 * (1 + d.below(most))
	}
	var r api.Rect
	r.X, r.W = way()
	r.Y, r.H = way()
	return r
}

// coded is a block at a place, coded somehow: grids are told what no frame's block may be, too.
func (d *draws) coded(x, y, w, h int) api.Block {
	few := func() int { return d.one(-1, 0, 0, 1, 1, 2, 2, 3) }
	part := func() int { return d.one(0, 0, 0, 5, -5, api.MaxVec, math.MaxInt, math.MinInt) }
	return api.Block{
		X: x, Y: y, W: w, H: h,
		Skip: d.below(2) == 1, Inter: d.below(4) > 0, Comp: d.below(2) == 1, Obmc: d.below(2) == 1,
		YMode: few(), YDelta: few(), UVMode: few(), UVDelta: few(), CflU: part(), CflV: part(),
		TxSize: d.one(sides()...), Ref: [2]int{few(), few()}, MvMode: few(), Filter: few(),
		Mv: [2]api.Vec{vec(part(), part()), vec(part(), part())},
	}
}

// model knows a tile sample by sample.
type model struct {
	tile   api.Rect
	blocks []api.Block
	of     [256][256]uint16 // row by row: which of the blocks, from 1 on
}

func (m *model) in(x, y int) bool {
	return m.tile.X <= x && x-m.tile.X < m.tile.W && m.tile.Y <= y && y-m.tile.Y < m.tile.H
}

func (m *model) at(x, y int) (api.Block, bool) {
	if !m.in(x, y) || m.of[y][x] == 0 {
		return api.Block{}, false
	}
	return m.blocks[m.of[y][x]-1], true
}

func (m *model) put(b api.Block) bool {
	if b.X&7 != 0 || b.Y&7 != 0 || !slices.Contains(sides(), b.W) || !slices.Contains(sides(), b.H) {
		return false
	}
	for pass := range 2 {
		for y := range b.H {
			for x := range b.W {
				if pass == 1 {
					m.of[b.Y+y][b.X+x] = uint16(len(m.blocks) + 1)
				} else if !m.in(b.X+x, b.Y+y) || m.of[b.Y+y][b.X+x] != 0 {
					return false
				}
			}
		}
	}
	m.blocks = append(m.blocks, b)
	return true
}

// asked is whether a place is in the tile, and one of every so many.
func (m *model) asked(x, y, every int) bool {
	return m.in(x, y) && x/every*every == x && y/every*every == y
}

func (m *model) part(x, y, size int) (int, bool) {
	if !slices.Contains(sizes(), size) || !m.asked(x, y, size) {
		return 0, false
	}
	n := 0
	if b, ok := m.at(x, y-1); ok && b.W < size {
		n = 1
	}
	if b, ok := m.at(x-1, y); ok && b.H < size {
		n |= 2
	}
	return n, true
}

// neighbours are how many of the two there are of which something holds.
func (m *model) neighbours(x, y int, holds func(api.Block) bool) (int, bool) {
	if !m.asked(x, y, 8) {
		return 0, false
	}
	n := 0
	for _, by := range []api.Vec{vec(-1, 0), vec(0, -1)} {
		if b, ok := m.at(x+by.X, y+by.Y); ok && holds(b) {
			n++
		}
	}
	return n, true
}

func (m *model) vecs(r api.Rect, ref int) ([2]api.Vec, int, bool) {
	if !m.asked(r.X, r.Y, 8) || !slices.Contains([]int{8, 16, 24, 32, 40, 48, 56, 64}, r.W) || !slices.Contains([]int{0, 1, 2}, ref) {
		return [2]api.Vec{}, 0, false
	}
	var l []api.Vec
	for _, at := range []api.Vec{vec(r.X-1, r.Y), vec(r.X, r.Y-1), vec(r.X+r.W, r.Y-1), vec(r.X-1, r.Y-1)} {
		b, ok := m.at(at.X, at.Y)
		if !ok || !b.Inter {
			continue
		}
		if b.Ref[0] == ref {
			l = append(l, b.Mv[0])
		} else if b.Comp && b.Ref[1] == ref {
			l = append(l, b.Mv[1])
		}
	}
	if len(l) == 0 {
		return [2]api.Vec{}, 0, true
	}
	for _, v := range l[1:] {
		if v != l[0] {
			return [2]api.Vec{l[0], v}, 2, true
		}
	}
	return [2]api.Vec{l[0]}, 1, true
}

// pair is a grid and its model, side by side.
type pair struct {
	t *testing.T
	g *grid.Grid
	m *model
}

// made is a grid that there must be.
func made(t *testing.T, tile api.Rect) *grid.Grid {
	t.Helper()
	g, e := grid.New(tile)
	if g == nil || e != api.OK {
		t.Fatalf("New(%v): %v, %d", tile, g, e)
	}
	return g
}

func pairOf(t *testing.T, tile api.Rect, l ...api.Block) *pair {
	t.Helper()
	p := &pair{t: t, g: made(t, tile), m: &model{tile: tile}}
	for _, b := range l {
		p.known(b)
	}
	return p
}

// errno is what a call says beside an answer that there is or is not.
func errno(ok bool) api.Errno {
	if ok {
		return api.OK
	}
	return api.ErrArg
}

// put puts what may be put or not, and tells which.
func (p *pair) put(b api.Block) bool {
	p.t.Helper()
	ok := p.m.put(b)
	if e := p.g.Put(b); e != errno(ok) {
		p.t.Fatalf("tile %v: Put(%v) behind %d blocks: %d", p.m.tile, b, len(p.m.blocks), e)
	}
	return ok
}

// known puts what may be put.
func (p *pair) known(b api.Block) {
	p.t.Helper()
	if !p.put(b) {
		p.t.Fatalf("tile %v: Put(%v) is refused", p.m.tile, b)
	}
}

// refused puts what may not be put.
func (p *pair) refused(b api.Block) {
	p.t.Helper()
	if p.put(b) {
		p.t.Fatalf("tile %v: Put(%v) is not refused", p.m.tile, b)
	}
}

// fill puts mixed blocks, as many as are drawn, where they may be put.
func (p *pair) fill(d *draws, many int) {
	p.t.Helper()
	for range many {
		x, y := p.m.tile.X+8*d.below(p.m.tile.W/8), p.m.tile.Y+8*d.below(p.m.tile.H/8)
		p.put(d.coded(x, y, d.one(8, 8, 16, 32, 64), d.one(8, 8, 16, 32, 64)))
	}
}

func (p *pair) at(x, y int) {
	p.t.Helper()
	want, there := p.m.at(x, y)
	if b, ok := p.g.At(x, y); b != want || ok != there {
		p.t.Fatalf("tile %v: At(%d, %d): %v, %v, want %v, %v", p.m.tile, x, y, b, ok, want, there)
	}
}

func (p *pair) part(x, y, size int) {
	p.t.Helper()
	want, ok := p.m.part(x, y, size)
	if n, e := p.g.Part(x, y, size); n != want || e != errno(ok) {
		p.t.Fatalf("tile %v: Part(%d, %d, %d): %d, %d, want %d, %d", p.m.tile, x, y, size, n, e, want, errno(ok))
	}
}

// counts asks both for Skip and for Inter.
func (p *pair) counts(x, y int) {
	p.t.Helper()
	want, ok := p.m.neighbours(x, y, func(b api.Block) bool { return b.Skip })
	if n, e := p.g.Skip(x, y); n != want || e != errno(ok) {
		p.t.Fatalf("tile %v: Skip(%d, %d): %d, %d, want %d, %d", p.m.tile, x, y, n, e, want, errno(ok))
	}
	want, ok = p.m.neighbours(x, y, func(b api.Block) bool { return b.Inter })
	if n, e := p.g.Inter(x, y); n != want || e != errno(ok) {
		p.t.Fatalf("tile %v: Inter(%d, %d): %d, %d, want %d, %d", p.m.tile, x, y, n, e, want, errno(ok))
	}
}

func (p *pair) vecs(r api.Rect, ref int) {
	p.t.Helper()
	want, many, ok := p.m.vecs(r, ref)
	if v, n, e := p.g.Vecs(r, ref); v != want || n != many || e != errno(ok) {
		p.t.Fatalf("tile %v: Vecs(%v, %d): %v, %d, %d, want %v, %d, %d", p.m.tile, r, ref, v, n, e, want, many, errno(ok))
	}
}

func (p *pair) blocks() {
	p.t.Helper()
	if l := p.g.Blocks(); !slices.Equal(l, p.m.blocks) {
		p.t.Fatalf("tile %v: Blocks: %v, want %v", p.m.tile, l, p.m.blocks)
	}
}

// samples asks for every sample of the tile, and for those about it.
func (p *pair) samples() {
	p.t.Helper()
	for y := p.m.tile.Y - 9; y < p.m.tile.Y+p.m.tile.H+9; y++ {
		for x := p.m.tile.X - 9; x < p.m.tile.X+p.m.tile.W+9; x++ {
			p.at(x, y)
		}
	}
}

// told asks for all that is told of a place.
func (p *pair) told(x, y int) {
	p.t.Helper()
	p.counts(x, y)
	for _, size := range sizes() {
		p.part(x, y, size)
	}
	for w := 8; w <= 64; w += 8 {
		for ref := range 3 {
			p.vecs(rect(x, y, w, 8), ref)
		}
	}
}

// all asks for everything that a grid tells, cell by cell, and about its tile.
func (p *pair) all() {
	p.t.Helper()
	p.blocks()
	p.samples()
	for y := p.m.tile.Y - 8; y <= p.m.tile.Y+p.m.tile.H; y += 8 {
		for x := p.m.tile.X - 8; x <= p.m.tile.X+p.m.tile.W; x += 8 {
			p.told(x, y)
		}
	}
}
