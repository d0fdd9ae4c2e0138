package modes_test

import (
	"slices"
	"testing"

	"zoetrope/api"
	"zoetrope/grid"
	"zoetrope/syms"
)

// field is one of a block's numbers.
type field struct {
	name string
	of   func(*api.Block) *int
}

var shapeOnly = []field{
	{"X", func(b *api.Block) *int { return &b.X }},
	{"Y", func(b *api.Block) *int { return &b.Y }},
	{"W", func(b *api.Block) *int { return &b.W }},
	{"H", func(b *api.Block) *int { return &b.H }},
}

var intraOnly = []field{
	{"YMode", func(b *api.Block) *int { return &b.YMode }},
	{"YDelta", func(b *api.Block) *int { return &b.YDelta }},
	{"UVMode", func(b *api.Block) *int { return &b.UVMode }},
	{"UVDelta", func(b *api.Block) *int { return &b.UVDelta }},
	{"CflU", func(b *api.Block) *int { return &b.CflU }},
	{"CflV", func(b *api.Block) *int { return &b.CflV }},
}

var interOnly = []field{
	{"Ref 0", func(b *api.Block) *int { return &b.Ref[0] }},
	{"Ref 1", func(b *api.Block) *int { return &b.Ref[1] }},
	{"MvMode", func(b *api.Block) *int { return &b.MvMode }},
	{"Mv 0 X", func(b *api.Block) *int { return &b.Mv[0].X }},
	{"Mv 0 Y", func(b *api.Block) *int { return &b.Mv[0].Y }},
	{"Mv 1 X", func(b *api.Block) *int { return &b.Mv[1].X }},
	{"Mv 1 Y", func(b *api.Block) *int { return &b.Mv[1].Y }},
	{"Filter", func(b *api.Block) *int { return &b.Filter }},
}

func fields() []field {
	size := field{"TxSize", func(b *api.Block) *int { return &b.TxSize }}
	return slices.Concat(shapeOnly, intraOnly, interOnly, []field{size})
}

// flags are a block's fields that are no numbers.
func flags() []func(*api.Block) *bool {
	return []func(*api.Block) *bool{
		func(b *api.Block) *bool { return &b.Skip },
		func(b *api.Block) *bool { return &b.Inter },
		func(b *api.Block) *bool { return &b.Comp },
		func(b *api.Block) *bool { return &b.Obmc },
	}
}

// sizesOf are the transforms' sizes that a block of a shape may have.
func sizesOf(b api.Block, f frame) []int {
	l := map[int][]int{8: {8, 4}, 16: {16, 8, 4}, 32: {32, 16, 8}, 64: {64, 32, 16}}[min(b.W, b.H)]
	if f.lossless {
		return []int{4}
	}
	if b.Skip && b.Inter {
		return l[:1]
	}
	return l
}

// span are the numbers from one to another one.
type span struct{ least, most int }

func (s span) has(n int) bool { return s.least <= n && n <= s.most }

// mayBe is what the chapter says of blocks: each field's span, by what the others are.
func mayBe(b api.Block, f frame) bool {
	if b.X&7 != 0 || b.Y&7 != 0 || !(span{0, 248}).has(b.X) || !(span{0, 248}).has(b.Y) || !slices.Contains(shapes(), [2]int{b.W, b.H}) {
		return false
	}
	if f.key && b.Inter || !slices.Contains(sizesOf(b, f), b.TxSize) {
		return false
	}
	may := map[string]span{}
	if b.Inter {
		may["Ref 0"], may["MvMode"], may["Filter"] = span{0, 2}, span{0, 3}, span{0, 2}
		may["Mv 0 X"], may["Mv 0 Y"] = span{-most, most}, span{-most, most}
		if b.Comp {
			may["Ref 1"], may["Mv 1 X"], may["Mv 1 Y"] = span{0, 2}, span{-most, most}, span{-most, most}
		}
		if b.Comp && b.Obmc {
			return false
		}
	} else {
		if b.Comp || b.Obmc {
			return false
		}
		may["YMode"], may["UVMode"] = span{0, 12}, span{0, 12}
		if b.W < 64 && b.H < 64 {
			may["UVMode"] = span{0, 13}
		}
		if b.YMode > 0 && b.YMode < 9 {
			may["YDelta"] = span{-3, 3}
		}
		if b.UVMode > 0 && b.UVMode < 9 {
			may["UVDelta"] = span{-3, 3}
		}
		if b.UVMode == 13 {
			may["CflU"], may["CflV"] = span{-16, 16}, span{-16, 16}
			if b.CflU == 0 && b.CflV == 0 {
				return false
			}
		}
	}
	for _, l := range [][]field{intraOnly, interOnly} {
		for _, x := range l {
			if !may[x.name].has(*x.of(&b)) {
				return false
			}
		}
	}
	return true
}

// number stands where a kind would: what is coded is a number of n bits.
const number = -1

// act is something that is coded: a symbol of a kind and a context, or a number of n bits.
type act struct{ kind, context, n, v int }

func symbol(kind, context, v int) act { return act{kind, context, 0, v} }

func raw(n, v int) act { return act{number, 0, n, v} }

// does has a coder code acts, each of which must answer its value.
func does(t *testing.T, c *syms.Coder, l ...act) {
	t.Helper()
	for _, a := range l {
		v, e := 0, api.OK
		if a.kind == number {
			v, e = c.Bits(a.n, a.v)
		} else {
			v, e = c.Symbol(a.kind, a.context, a.v)
		}
		if v != a.v || e != api.OK {
			t.Fatalf("%+v: got %d, %d", a, v, e)
		}
	}
}

// weight is how many symbols and bits acts are.
func weight(l []act) int {
	n := 0
	for _, a := range l {
		if a.kind == number {
			n += a.n
		} else {
			n++
		}
	}
	return n
}

func one(so bool) int {
	if so {
		return 1
	}
	return 0
}

// place is where one of a list stands.
func place(n int, l ...int) int { return slices.Index(l, n) }

// asked are the contexts that a grid tells.
func asked(t *testing.T, g *grid.Grid, b api.Block) (skip, inter int) {
	t.Helper()
	skip, e := g.Skip(b.X, b.Y)
	inter, f := g.Inter(b.X, b.Y)
	if e != api.OK || f != api.OK {
		t.Fatalf("contexts of %v: %d, %d", b, e, f)
	}
	return skip, inter
}

// plan is all that is coded for a block, as the chapter tells it.
func plan(t *testing.T, g *grid.Grid, b api.Block, f frame) []act {
	t.Helper()
	skip, inter := asked(t, g, b)
	l := []act{symbol(api.SymSkip, skip, one(b.Skip))}
	if !f.key {
		l = append(l, symbol(api.SymInter, inter, one(b.Inter)))
	}
	if !b.Inter {
		l = append(l, planIntra(b)...)
	}
	least := min(b.W, b.H)
	if !f.lossless && !(b.Skip && b.Inter) {
		by := place(b.TxSize, least, least/2, least/4)
		if least == 8 {
			l = append(l, symbol(api.SymTx8, 0, by))
		} else {
			l = append(l, symbol(api.SymTx, place(least, 16, 32, 64), by))
		}
	}
	if b.Inter {
		l = append(l, planInter(t, g, b)...)
	}
	return l
}

func planIntra(b api.Block) []act {
	l := []act{symbol(api.SymYMode, place(min(b.W, b.H), 8, 16, 32, 64), b.YMode)}
	if b.YMode >= 1 && b.YMode <= 8 {
		l = append(l, symbol(api.SymDelta, b.YMode-1, b.YDelta+3))
	}
	if b.W == 64 || b.H == 64 {
		l = append(l, symbol(api.SymUVMode, 0, b.UVMode))
	} else {
		l = append(l, symbol(api.SymUVCfl, 0, b.UVMode))
	}
	if b.UVMode >= 1 && b.UVMode <= 8 {
		l = append(l, symbol(api.SymDelta, b.UVMode-1, b.UVDelta+3))
	}
	if b.UVMode == 13 {
		way := func(n int) int { return one(n != 0) + one(n > 0) }
		l = append(l, symbol(api.SymCflSign, 0, 3*way(b.CflU)+way(b.CflV)-1))
		for i, n := range []int{b.CflU, b.CflV} {
			if n != 0 {
				l = append(l, symbol(api.SymCflMag, i, amount(n)-1))
			}
		}
	}
	return l
}

func amount(n int) int {
	if n < 0 {
		return -n
	}
	return n
}

func planInter(t *testing.T, g *grid.Grid, b api.Block) []act {
	t.Helper()
	l := []act{symbol(api.SymComp, 0, one(b.Comp)), symbol(api.SymRef, 0, b.Ref[0])}
	if b.Comp {
		l = append(l, symbol(api.SymRef, 1, b.Ref[1]))
	}
	_, n := candidates(t, g, b, b.Ref[0])
	l = append(l, symbol(api.SymMvMode, n, b.MvMode))
	for i := range 2 {
		if b.MvMode == api.MvNew && (i == 0 || b.Comp) {
			near, _ := candidates(t, g, b, b.Ref[i])
			l = append(l, planVec(b.Mv[i].X-near[0].X, b.Mv[i].Y-near[0].Y)...)
		}
	}
	l = append(l, symbol(api.SymFilter, 0, b.Filter))
	if !b.Comp {
		l = append(l, symbol(api.SymObmc, 0, one(b.Obmc)))
	}
	return l
}

// planVec are the acts of a vector that is so far from its candidate.
func planVec(x, y int) []act {
	l := []act{symbol(api.SymMvJoint, 0, one(x != 0)+2*one(y != 0))}
	for i, n := range []int{x, y} {
		if n != 0 {
			l = append(l, planPart(i, n)...)
		}
	}
	return l
}

// planPart finds the class by going through them: the class k has 2^k times eight amounts.
func planPart(context, n int) []act {
	class, from := 0, 1
	for amount(n) >= from+8<<class {
		from += 8 << class
		class++
	}
	by := amount(n) - from
	l := []act{raw(1, one(n < 0)), symbol(api.SymMvClass, context, class)}
	if class > 0 {
		l = append(l, raw(class, by/8))
	}
	return append(l, symbol(api.SymMvFrac, context, by%8))
}

// source is a coder that reads, asked for what it must have.
type source struct {
	t *testing.T
	c *syms.Coder
}

func (s source) symbol(kind, context int) int {
	v, e := s.c.Symbol(kind, context, 0)
	if e != api.OK {
		s.t.Fatalf("Symbol(%d, %d): %d", kind, context, e)
	}
	return v
}

func (s source) bits(n int) int {
	v, e := s.c.Bits(n, 0)
	if e != api.OK {
		s.t.Fatalf("Bits(%d): %d", n, e)
	}
	return v
}

// block reads a block as the chapter tells it; false, where a vector has a part that is too great.
func (s source) block(g *grid.Grid, b api.Block, f frame) (api.Block, bool) {
	s.t.Helper()
	b = shaped(b.X, b.Y, b.W, b.H)
	skip, inter := asked(s.t, g, b)
	b.Skip = s.symbol(api.SymSkip, skip) > 0
	if !f.key {
		b.Inter = s.symbol(api.SymInter, inter) > 0
	}
	if !b.Inter {
		s.intra(&b)
	}
	least := min(b.W, b.H)
	switch {
	case f.lossless:
		b.TxSize = 4
	case b.Skip && b.Inter:
		b.TxSize = least
	case least == 8:
		b.TxSize = [2]int{8, 4}[s.symbol(api.SymTx8, 0)]
	default:
		b.TxSize = [3]int{least, least / 2, least / 4}[s.symbol(api.SymTx, map[int]int{16: 0, 32: 1, 64: 2}[least])]
	}
	if b.Inter && !s.inter(g, &b) {
		return api.Block{}, false
	}
	return b, true
}

func (s source) intra(b *api.Block) {
	b.YMode = s.symbol(api.SymYMode, map[int]int{8: 0, 16: 1, 32: 2, 64: 3}[min(b.W, b.H)])
	if b.YMode > 0 && b.YMode < 9 {
		b.YDelta = s.symbol(api.SymDelta, b.YMode-1) - 3
	}
	kind := api.SymUVCfl
	if b.W+b.H > 64 && (b.W == 64 || b.H == 64) {
		kind = api.SymUVMode
	}
	b.UVMode = s.symbol(kind, 0)
	if b.UVMode > 0 && b.UVMode < 9 {
		b.UVDelta = s.symbol(api.SymDelta, b.UVMode-1) - 3
	}
	if b.UVMode == 13 {
		way := [8][2]int{{0, -1}, {0, 1}, {-1, 0}, {-1, -1}, {-1, 1}, {1, 0}, {1, -1}, {1, 1}}[s.symbol(api.SymCflSign, 0)]
		if way[0] != 0 {
			b.CflU = way[0] * (s.symbol(api.SymCflMag, 0) + 1)
		}
		if way[1] != 0 {
			b.CflV = way[1] * (s.symbol(api.SymCflMag, 1) + 1)
		}
	}
}

func (s source) inter(g *grid.Grid, b *api.Block) bool {
	s.t.Helper()
	b.Comp = s.symbol(api.SymComp, 0) > 0
	many := 1
	b.Ref[0] = s.symbol(api.SymRef, 0)
	if b.Comp {
		many = 2
		b.Ref[1] = s.symbol(api.SymRef, 1)
	}
	_, n := candidates(s.t, g, *b, b.Ref[0])
	b.MvMode = s.symbol(api.SymMvMode, n)
	for i := range many {
		near, _ := candidates(s.t, g, *b, b.Ref[i])
		switch b.MvMode {
		case 0, 1:
			b.Mv[i] = near[b.MvMode]
		case 3:
			joint := s.symbol(api.SymMvJoint, 0)
			b.Mv[i] = near[0]
			if joint == 1 || joint == 3 {
				b.Mv[i].X += s.part(0)
			}
			if joint > 1 {
				b.Mv[i].Y += s.part(1)
			}
		}
		if v := b.Mv[i]; v.X > most || v.X < -most || v.Y > most || v.Y < -most {
			return false
		}
	}
	b.Filter = s.symbol(api.SymFilter, 0)
	if !b.Comp {
		b.Obmc = s.symbol(api.SymObmc, 0) > 0
	}
	return true
}

// part is what a part differs by: the class k begins behind 8 times 2^k - 1.
func (s source) part(context int) int {
	way := 1 - 2*s.bits(1)
	class := s.symbol(api.SymMvClass, context)
	n := 8*(1<<class-1) + 8*s.bits(class)
	return way * (n + s.symbol(api.SymMvFrac, context) + 1)
}
