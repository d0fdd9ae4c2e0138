package subpel_test

import (
	"math"
	"math/bits"
	"slices"
	"testing"

	"zoetrope/api"
	"zoetrope/subpel"
)

// What is expected is worked out by none of the package's own calls: its taps stand here once more, each place of each kind written out.

const far20 = 1 << 20 // how far out a block may begin, either way

func kinds() []int { return []int{api.FilterRegular, api.FilterSmooth, api.FilterBilinear} }

// known are the taps of all kinds at all places.
func known(kind, at int) [8]int {
	return [3][16][8]int{
		{
			{0, 0, 0, 128, 0, 0, 0, 0},
			{0, 2, -6, 126, 8, -2, 0, 0},
			{0, 2, -10, 122, 18, -4, 0, 0},
			{0, 2, -12, 116, 28, -8, 2, 0},
			{0, 2, -14, 110, 38, -10, 2, 0},
			{0, 2, -14, 102, 48, -12, 2, 0},
			{0, 2, -16, 94, 58, -12, 2, 0},
			{0, 2, -14, 84, 66, -12, 2, 0},
			{0, 2, -14, 76, 76, -14, 2, 0},
			{0, 2, -12, 66, 84, -14, 2, 0},
			{0, 2, -12, 58, 94, -16, 2, 0},
			{0, 2, -12, 48, 102, -14, 2, 0},
			{0, 2, -10, 38, 110, -14, 2, 0},
			{0, 2, -8, 28, 116, -12, 2, 0},
			{0, 0, -4, 18, 122, -10, 2, 0},
			{0, 0, -2, 8, 126, -6, 2, 0},
		},
		{
			{0, 0, 0, 128, 0, 0, 0, 0},
			{0, 2, 28, 62, 34, 2, 0, 0},
			{0, 0, 26, 62, 36, 4, 0, 0},
			{0, 0, 22, 62, 40, 4, 0, 0},
			{0, 0, 20, 60, 42, 6, 0, 0},
			{0, 0, 18, 58, 44, 8, 0, 0},
			{0, 0, 16, 56, 46, 10, 0, 0},
			{0, -2, 16, 54, 48, 12, 0, 0},
			{0, -2, 14, 52, 52, 14, -2, 0},
			{0, 0, 12, 48, 54, 16, -2, 0},
			{0, 0, 10, 46, 56, 16, 0, 0},
			{0, 0, 8, 44, 58, 18, 0, 0},
			{0, 0, 6, 42, 60, 20, 0, 0},
			{0, 0, 4, 40, 62, 22, 0, 0},
			{0, 0, 4, 36, 62, 26, 0, 0},
			{0, 0, 2, 34, 62, 28, 2, 0},
		},
		{
			{0, 0, 0, 128, 0, 0, 0, 0},
			{0, 0, 0, 120, 8, 0, 0, 0},
			{0, 0, 0, 112, 16, 0, 0, 0},
			{0, 0, 0, 104, 24, 0, 0, 0},
			{0, 0, 0, 96, 32, 0, 0, 0},
			{0, 0, 0, 88, 40, 0, 0, 0},
			{0, 0, 0, 80, 48, 0, 0, 0},
			{0, 0, 0, 72, 56, 0, 0, 0},
			{0, 0, 0, 64, 64, 0, 0, 0},
			{0, 0, 0, 56, 72, 0, 0, 0},
			{0, 0, 0, 48, 80, 0, 0, 0},
			{0, 0, 0, 40, 88, 0, 0, 0},
			{0, 0, 0, 32, 96, 0, 0, 0},
			{0, 0, 0, 24, 104, 0, 0, 0},
			{0, 0, 0, 16, 112, 0, 0, 0},
			{0, 0, 0, 8, 120, 0, 0, 0},
		},
	}[kind][at]
}

// far are numbers far away, some of whose lower bits look as if they might be right.
func far() []int {
	l := []int{math.MaxInt, math.MaxInt - 1, math.MaxInt - 15, math.MinInt, math.MinInt + 1, math.MinInt + 2, math.MinInt + 8, math.MinInt + 16, math.MaxInt32, math.MaxInt32 - 15, math.MinInt32, math.MinInt32 + 1, math.MinInt32 + 8, 1 << 30, -1 << 30, 1<<30 + 8}
	if bits.UintSize > 32 {
		for _, v := range []int{0, 1, 2, 8, 16, 64, -1, -16} {
			for at := 32; at < bits.UintSize; at++ {
				l = append(l, v+1<<at, v-1<<at)
			}
		}
	}
	return l
}

func noKinds() []int {
	return append([]int{-1, -2, -3, -16, 3, 4, 5, 8, 16, 255, 256, 257, 1 << 16, 1<<16 + 1, -256, -1 << 16}, far()...)
}

func noParts() []int {
	return append([]int{-1, -2, -8, -15, -16, -17, 16, 17, 24, 31, 32, 64, 255, 256, 257, 1 << 16, 1<<16 + 1, -256, -1 << 16}, far()...)
}

func noPlaces() []int {
	return append([]int{far20 + 1, far20 + 2, far20 + 15, far20 + 16, 2 * far20, 1 << 24, -far20 - 1, -far20 - 2, -far20 - 15, -far20 - 16, -2 * far20, -1 << 24}, far()...)
}

func noSides() []int {
	return append([]int{3, 2, 1, 0, -1, -2, -4, -8, -64, 65, 66, 68, 72, 80, 128, 255, 256, 260, 1 << 16, 1<<16 + 4, -256, -1 << 16}, far()...)
}

// draws is a row of numbers that look mixed and are always the same.
type draws uint64

func (d *draws) below(n int) int {
	*d = *d*6364136223846793005 + 1442695040888963407
	return int(uint64(*d) >> 33 % uint64(n))
}

// samples are n samples, each of them from least to greatest.
func (d *draws) samples(n, least, greatest int) []uint8 {
	l := make([]uint8, n)
	for i := range l {
		l[i] = uint8(least + d.below(greatest-least+1))
	}
	return l
}

func (d *draws) plane(w, h int) api.Plane {
	return api.Plane{W: w, H: h, Pix: d.samples(w*h, 0, 255)}
}

// sharp is a plane of nothing but 0 and 255, whose sums go as far as they can.
func (d *draws) sharp(w, h int) api.Plane {
	p := api.Plane{W: w, H: h, Pix: d.samples(w*h, 0, 1)}
	for i := range p.Pix {
		p.Pix[i] *= 255
	}
	return p
}

// block is any one about a plane, reaching over its edges and beyond them.
func (d *draws) block(p api.Plane) block {
	w, h := 4+d.below(20), 4+d.below(20)
	return block{d.below(16*(p.W+2*w)) - 16*w, d.below(16*(p.H+2*h)) - 16*h, w, h, d.below(3)}
}

func samples(w, h int, l ...uint8) api.Plane { return api.Plane{W: w, H: h, Pix: l} }

// four is the chapter's P.
func four() api.Plane { return samples(4, 1, 0, 100, 100, 0) }

// alike are n times one thing.
func alike[T any](n int, v T) []T { return slices.Repeat([]T{v}, n) }

// planes are some of all shapes: of one sample, one row, one column, and as great as they may be among them.
func planes() []api.Plane {
	d := draws(14)
	l := []api.Plane{four(), samples(1, 1, 0), samples(1, 1, 1), samples(1, 1, 255), samples(2, 2, 0, 255, 255, 0)}
	for _, s := range [][2]int{{1, 2}, {2, 1}, {1, 9}, {9, 1}, {3, 5}, {7, 4}, {8, 8}, {16, 9}, {33, 64}, {1, 512}, {512, 1}, {511, 3}, {64, 64}, {512, 512}} {
		l = append(l, d.plane(s[0], s[1]), d.sharp(s[0], s[1]))
	}
	return l
}

// wrong are planes that may not be.
func wrong() []api.Plane {
	room := []uint8{1, 2, 3, 4, 5, 6, 7, 8, 9}
	l := []api.Plane{
		{}, {W: 1}, {H: 1}, {W: 1, H: 1}, {W: 4, H: 4}, {W: 512, H: 512}, {Pix: room}, {W: 0, H: 9, Pix: room}, {W: 9, H: 0, Pix: room},
		{W: 1, H: 1, Pix: room[:2]}, {W: 1, H: 1, Pix: room[:0]}, {W: 2, H: 2, Pix: room[:3]}, {W: 2, H: 2, Pix: room[:5]}, {W: 3, H: 3, Pix: room[:8]}, {W: 3, H: 2, Pix: room[:7]}, {W: 9, H: 1, Pix: room[:8]},
		{W: -1, H: -1, Pix: room[:1]}, {W: -3, H: -3, Pix: room}, {W: -1, H: 3, Pix: room[:3]}, {W: 3, H: -1, Pix: room[:3]},
		{W: 513, H: 1, Pix: make([]uint8, 513)}, {W: 1, H: 513, Pix: make([]uint8, 513)}, {W: 512, H: 513, Pix: make([]uint8, 512*513)}, {W: 513, H: 512, Pix: make([]uint8, 512*513)}, {W: 1024, H: 256, Pix: make([]uint8, 1<<18)},
		{W: 512, H: 512, Pix: make([]uint8, 1<<18-1)}, {W: 512, H: 512, Pix: make([]uint8, 1<<18+1)}, {W: 512, H: 1, Pix: make([]uint8, 511)}, {W: 1, H: 512, Pix: make([]uint8, 513)},
		{W: math.MinInt, H: 2}, {W: 2, H: math.MinInt}, {W: math.MinInt, H: math.MinInt}, {W: math.MaxInt, H: math.MaxInt, Pix: room[:1]}, {W: math.MaxInt, H: -1, Pix: room[:1]},
	}
	for _, n := range append([]int{0, -1, -512, 513, 514, 1024, 1 << 16}, far()...) {
		l = append(l, api.Plane{W: n, H: 3, Pix: room[:6]}, api.Plane{W: 3, H: n, Pix: room[:6]}, api.Plane{W: n, H: 1, Pix: room[:1]}, api.Plane{W: 1, H: n, Pix: room[:1]})
	}
	return l
}

// block is where a block begins, its size, and its kind of filters.
type block struct{ x, y, w, h, kind int }

// may tells whether there is such a block of a plane that may be.
func (b block) may() bool {
	within := func(n, least, most int) bool { return least <= n && n <= most }
	return within(b.x, -far20, far20) && within(b.y, -far20, far20) && within(b.w, 4, 64) && within(b.h, 4, 64) && within(b.kind, 0, 2)
}

// near is a sample, or the nearest one: the place is gone to step by step from the edge where it is none.
func near(p api.Plane, x, y int) int {
	switch {
	case x < 0:
		return near(p, 0, y)
	case x >= p.W:
		return near(p, p.W-1, y)
	case y < 0:
		return near(p, x, 0)
	case y >= p.H:
		return near(p, x, p.H-1)
	}
	return int(p.Pix[y*p.W+x])
}

// over is a number divided, rounded down, and what is left of it: never below 0.
func over(n, by int) (int, int) {
	q, rest := n/by, n%by
	if rest < 0 {
		return q - 1, rest + by
	}
	return q, rest
}

// rounded is a number divided, to the nearest, up from the middle.
func rounded(n, by int) int {
	q, rest := over(n, by)
	if 2*rest >= by {
		return q + 1
	}
	return q
}

// clipped is a number brought between 0 and 255.
func clipped(v int) uint8 {
	if v < 0 {
		return 0
	}
	if v > 255 {
		return 255
	}
	return uint8(v)
}

// model is a block sample by sample, row by row, by some way of rounding.
func model(p api.Plane, b block, round func(n, by int) int) []uint8 {
	x, f := over(b.x, 16)
	y, g := over(b.y, 16)
	across, down := known(b.kind, f), known(b.kind, g)
	m := map[[2]int]int{}
	for j := -3; j <= b.h+3; j++ {
		for i := range b.w {
			sum := 0
			for k, tap := range across {
				sum += tap * near(p, x+i+k-3, y+j)
			}
			m[[2]int{i, j}] = round(sum, 8)
		}
	}
	var l []uint8
	for j := range b.h {
		for i := range b.w {
			sum := 0
			for k, tap := range down {
				sum += tap * m[[2]int{i, j + k - 3}]
			}
			l = append(l, clipped(round(sum, 2048)))
		}
	}
	return l
}

// fetched is a block that there must be.
func fetched(t *testing.T, p api.Plane, b block) []uint8 {
	t.Helper()
	l, e := subpel.Fetch(p, b.x, b.y, b.w, b.h, b.kind)
	if e != api.OK || len(l) != b.w*b.h {
		t.Fatalf("%d by %d, %+v: %d samples, %d", p.W, p.H, b, len(l), e)
	}
	return l
}

// fetchedIs asks for just these samples.
func fetchedIs(t *testing.T, p api.Plane, b block, want ...uint8) {
	t.Helper()
	if l := fetched(t, p, b); !slices.Equal(l, want) {
		t.Fatalf("%d by %d, %+v: %v, want %v", p.W, p.H, b, l, want)
	}
}

// asModel asks for what the model has.
func asModel(t *testing.T, p api.Plane, b block) {
	t.Helper()
	fetchedIs(t, p, b, model(p, b, rounded)...)
}

// refused asks for ErrArg, and for nothing beside it.
func refused(t *testing.T, p api.Plane, b block) {
	t.Helper()
	if l, e := subpel.Fetch(p, b.x, b.y, b.w, b.h, b.kind); e != api.ErrArg || len(l) != 0 {
		t.Fatalf("%d by %d of %d samples, %+v: %d samples, %d", p.W, p.H, len(p.Pix), b, len(l), e)
	}
}
