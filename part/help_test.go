package part_test

import (
	"math"
	"math/big"
	"math/bits"
	"slices"
	"strings"
	"testing"

	"zoetrope/api"
	"zoetrope/part"
)

// What is expected is worked out by none of the package's own calls.

const (
	lastOfRegion = 2048 // where a region may begin
	lastOfSquare = 1024 // where a square with a tree may begin
	lastOfArea   = 1024 // where an area may begin
	mostOfArea   = 1024 // a side of an area
)

func rect(x, y, w, h int) api.Rect { return api.Rect{X: x, Y: y, W: w, H: h} }

func region(x, y, size int) api.Rect { return rect(x, y, size, size) }

func sizes() []int { return []int{64, 32, 16, 8} }

// many is how many partitions a size has.
func many(size int) int { return map[int]int{64: 10, 32: 10, 16: 8, 8: 1}[size] }

// far are numbers far away, some of whose lower bits look as if they might be right.
func far() []int {
	l := []int{math.MaxInt, math.MaxInt - 1, math.MaxInt - 7, math.MaxInt - 63, math.MinInt, math.MinInt + 1, math.MinInt + 8, math.MinInt + 64, math.MaxInt32, math.MaxInt32 - 7, math.MaxInt32 - 63, math.MinInt32, math.MinInt32 + 8, math.MinInt32 + 64, 1 << 30, -1 << 30, 1<<30 + 8, 1<<30 + 64}
	if bits.UintSize > 32 {
		for _, v := range []int{0, 1, 3, 8, 16, 32, 64, 1024, 2048, -1, -8} {
			for at := 32; at < bits.UintSize; at++ {
				l = append(l, v+1<<at, v-1<<at)
			}
		}
	}
	return l
}

// noSizes are sides that no region has.
func noSizes() []int {
	l := []int{128, 256, 1024, 2048, 256 + 8, 256 + 64, 1<<16 + 8, 1<<16 + 64}
	for n := -140; n <= 140; n++ {
		if many(n) == 0 {
			l = append(l, n)
		}
	}
	return append(l, far()...)
}

// noPlaces are where nothing may begin whose last place is this one.
func noPlaces(last int) []int {
	l := []int{-8, -16, -64, -128, -1024, -2048, last + 8, last + 16, last + 64, 2 * last, 4096, 1 << 16, 1<<16 + 8, -1 << 16}
	for by := 1; by < 8; by++ {
		l = append(l, by, -by, 64+by, 1000+by, last-by, last+by)
	}
	return append(l, far()...)
}

// noLengths are sides that no area has.
func noLengths() []int {
	l := []int{0, -8, -16, -64, -1024, mostOfArea + 8, mostOfArea + 16, mostOfArea + 64, 2048, 1 << 16, 1<<16 + 8}
	for by := 1; by < 8; by++ {
		l = append(l, by, -by, 8+by, 64+by, mostOfArea-by, mostOfArea+by)
	}
	return append(l, far()...)
}

// noKinds are partitions that a region of this size has none of.
func noKinds(size int) []int {
	l := []int{-1, -2, -8, -10, -40, -256, 20, 40, 255, 256, 256 + 3, 1 << 16, 1<<16 + 3, -1 << 16}
	for kind := many(size); kind < 16; kind++ {
		l = append(l, kind)
	}
	return append(l, far()...)
}

// draws is a row of numbers that look mixed and are always the same.
type draws uint64

func (d *draws) below(n int) int {
	*d = *d*6364136223846793005 + 1442695040888963407
	return int(uint64(*d) >> 33 % uint64(n))
}

// one is any of a list.
func (d *draws) one(l ...int) int { return l[d.below(len(l))] }

// choices are n of any kind: most of them small, every third one PartSplit, some as far as numbers go.
func (d *draws) choices(n int) []int {
	l := make([]int, n)
	for i := range l {
		switch d.below(12) {
		case 0, 1, 2, 3:
			l[i] = api.PartSplit
		case 4:
			l[i] = d.below(1000) - 500
		case 5:
			l[i] = d.one(math.MaxInt, math.MinInt, math.MaxInt-d.below(50), math.MinInt+d.below(50))
		default:
			l[i] = d.below(10)
		}
	}
	return l
}

// area is any one that lies about a square: over some of its edges, within it, around it, or beside it.
func (d *draws) area(r api.Rect) api.Rect {
	side := func(at int) (int, int) {
		x := max(0, min(at+8*(d.below(24)-12), lastOfArea))
		return x, 8 * (1 + d.below(d.one(4, 8, 16, 128)))
	}
	var a api.Rect
	a.X, a.W = side(r.X)
	a.Y, a.H = side(r.Y)
	return a
}

// drawing is a partition drawn by fourths, each part by the letter of its turn.
func drawing(kind int) string {
	switch kind {
	case api.PartNone:
		return "aaaa aaaa aaaa aaaa"
	case api.PartHorz:
		return "aaaa aaaa bbbb bbbb"
	case api.PartVert:
		return "aabb aabb aabb aabb"
	case api.PartSplit:
		return "aabb aabb ccdd ccdd"
	case api.PartHorzA:
		return "aabb aabb cccc cccc"
	case api.PartHorzB:
		return "aaaa aaaa bbcc bbcc"
	case api.PartVertA:
		return "aacc aacc bbcc bbcc"
	case api.PartVertB:
		return "aabb aabb aacc aacc"
	case api.PartHorz4:
		return "aaaa bbbb cccc dddd"
	}
	return "abcd abcd abcd abcd"
}

// drawn are a region's parts, read off the drawing.
func drawn(r api.Rect, kind int) []api.Rect {
	rows := strings.Fields(drawing(kind))
	q := r.W / 4
	var l []api.Rect
	for _, letter := range "abcd" {
		left, top, right, bottom := 4, 4, 0, 0
		for y, row := range rows {
			for x, c := range row {
				if c == letter {
					left, top, right, bottom = min(left, x), min(top, y), max(right, x+1), max(bottom, y+1)
				}
			}
		}
		if right > 0 {
			l = append(l, rect(r.X+left*q, r.Y+top*q, (right-left)*q, (bottom-top)*q))
		}
	}
	return l
}

// in tells whether a place is in a rectangle.
func in(r api.Rect, x, y int) bool { return r.X <= x && x-r.X < r.W && r.Y <= y && y-r.Y < r.H }

// counted is how many places of a region are in an area, counted one by one along each side.
func counted(r, area api.Rect) int {
	across, down := 0, 0
	for i := range r.W {
		if in(area, r.X+i, area.Y) {
			across++
		}
		if in(area, area.X, r.Y+i) {
			down++
		}
	}
	return across * down
}

// rest is a number's remainder, never below 0, worked out in numbers of any length.
func rest(n, by int) int {
	return int(new(big.Int).Mod(big.NewInt(int64(n)), big.NewInt(int64(by))).Int64())
}

// tree is what is expected of a square: its leaves, how many choices were used, and of how many partitions each of those was one.
type tree struct {
	leaves []api.Rect
	used   int
	of     []int
}

// model is a square's tree: what is yet to be cut stands on a pile.
func model(r, area api.Rect, choices []int) tree {
	var m tree
	pile := []api.Rect{r}
	for len(pile) > 0 {
		top := pile[len(pile)-1]
		pile = pile[:len(pile)-1]
		inside := counted(top, area)
		if inside == 0 {
			continue
		}
		kind := api.PartSplit
		if inside == top.W*top.H {
			kind = api.PartNone
			if top.W > 8 && m.used < len(choices) {
				kind = rest(choices[m.used], many(top.W))
				m.used++
				m.of = append(m.of, many(top.W))
			}
		}
		parts := drawn(top, kind)
		if kind != api.PartSplit {
			m.leaves = append(m.leaves, parts...)
			continue
		}
		slices.Reverse(parts)
		pile = append(pile, parts...)
	}
	return m
}

// cut is parts that there must be.
func cut(t *testing.T, r api.Rect, kind int) []api.Rect {
	t.Helper()
	l, e := part.Cuts(r, kind)
	if e != api.OK || len(l) == 0 {
		t.Fatalf("Cuts(%v, %d): %v, %d", r, kind, l, e)
	}
	return l
}

// cutIs asks for just these parts.
func cutIs(t *testing.T, r api.Rect, kind int, want ...api.Rect) {
	t.Helper()
	if l := cut(t, r, kind); !slices.Equal(l, want) {
		t.Fatalf("Cuts(%v, %d): %v, want %v", r, kind, l, want)
	}
}

// noCut asks for ErrArg, and for nothing beside it.
func noCut(t *testing.T, r api.Rect, kind int) {
	t.Helper()
	if l, e := part.Cuts(r, kind); e != api.ErrArg || len(l) != 0 {
		t.Fatalf("Cuts(%v, %d): %v, %d", r, kind, l, e)
	}
}

// blocks are leaves that there must be, and how many choices were used.
func blocks(t *testing.T, r, area api.Rect, choices []int) ([]api.Rect, int) {
	t.Helper()
	l, used, e := part.Blocks(r, area, choices)
	if e != api.OK || used < 0 || used > len(choices) {
		t.Fatalf("Blocks(%v, %v, %v): %v, %d, %d", r, area, choices, l, used, e)
	}
	return l, used
}

// blocksAre asks for just these leaves, and for so many choices.
func blocksAre(t *testing.T, r, area api.Rect, choices []int, used int, want ...api.Rect) {
	t.Helper()
	if l, n := blocks(t, r, area, choices); n != used || !slices.Equal(l, want) {
		t.Fatalf("Blocks(%v, %v, %v): %v, %d, want %v, %d", r, area, choices, l, n, want, used)
	}
}

// asModel asks for what the model has.
func asModel(t *testing.T, r, area api.Rect, choices []int) tree {
	t.Helper()
	m := model(r, area, choices)
	blocksAre(t, r, area, choices, m.used, m.leaves...)
	return m
}

// noBlocks asks for ErrArg, and for nothing beside it.
func noBlocks(t *testing.T, r, area api.Rect, choices []int) {
	t.Helper()
	if l, used, e := part.Blocks(r, area, choices); e != api.ErrArg || used != 0 || len(l) != 0 {
		t.Fatalf("Blocks(%v, %v, %v): %v, %d, %d", r, area, choices, l, used, e)
	}
}
