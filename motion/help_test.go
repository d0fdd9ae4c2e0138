package motion_test

import (
	"math"
	"math/bits"
	"slices"
	"testing"

	"zoetrope/api"
	"zoetrope/motion"
	"zoetrope/subpel"
)

// What is expected is worked out by none of the package's own calls.

const (
	farthest = 1024 // where a block may begin
	intBits  = bits.UintSize
)

func kinds() []int { return []int{api.FilterRegular, api.FilterSmooth, api.FilterBilinear} }

// far are numbers far away, some of whose lower bits look as if they might be right.
func far() []int {
	l := []int{math.MaxInt, math.MaxInt - 1, math.MaxInt - 3, math.MaxInt - 63, math.MinInt, math.MinInt + 1, math.MinInt + 4, math.MinInt + 16, math.MaxInt32, math.MaxInt32 - 15, math.MinInt32, math.MinInt32 + 1, math.MinInt32 + 8, 1 << 28, 1<<28 + 4, 1 << 30, -1 << 30, 1<<30 + 8}
	if bits.UintSize > 32 {
		for _, v := range []int{0, 1, 2, 4, 8, 16, 64, -1, -16} {
			for at := 32; at < bits.UintSize; at++ {
				l = append(l, v+1<<at, v-1<<at)
			}
		}
	}
	return l
}

func noKinds() []int {
	return append([]int{-1, -2, -3, -256, -1 << 16, 3, 4, 5, 8, 255, 256, 257, 1 << 16, 1<<16 + 1}, far()...)
}

// noPlanes are numbers of planes that no frame has.
func noPlanes() []int {
	return append([]int{-1, -2, -3, -256, -1 << 16, 3, 4, 5, 8, 255, 256, 257, 1 << 16, 1<<16 + 1}, far()...)
}

func noPlaces() []int {
	return append([]int{-1, -2, -8, -16, -1024, farthest + 1, farthest + 2, farthest + 8, 2048, 1 << 16, 1<<16 + 8, -1 << 16}, far()...)
}

func noSides() []int {
	return append([]int{3, 2, 1, 0, -1, -4, -8, -64, 65, 66, 68, 128, 256, 260, 1 << 16, 1<<16 + 4, -256}, far()...)
}

func noMoves() []int {
	return append([]int{api.MaxVec + 1, api.MaxVec + 2, -api.MaxVec - 1, -api.MaxVec - 2, 8192, -8192, 1 << 16, 1<<16 + 8, -1 << 16}, far()...)
}

// noDepths are numbers of weights that there are none of.
func noDepths() []int {
	return append([]int{3, 2, 1, 0, -1, -2, -3, -4, -5, -8, -32, 33, 34, 36, 40, 64, 128, 255, 256, 260, 264, 1 << 16, 1<<16 + 4, -252, -256}, far()...)
}

// draws is a row of numbers that look mixed and are always the same.
type draws uint64

func (d *draws) below(n int) int {
	*d = *d*6364136223846793005 + 1442695040888963407
	return int(uint64(*d) >> 33 % uint64(n))
}

// from is any number from least to greatest.
func (d *draws) from(least, greatest int) int { return least + d.below(greatest-least+1) }

// samples are n samples of any kind, or, each third time, of nothing but 0 and 255.
func (d *draws) samples(n int) []uint8 {
	sharp := d.below(3) == 0
	l := make([]uint8, n)
	for i := range l {
		l[i] = uint8(d.below(256))
		if sharp {
			l[i] = l[i] >> 7 * 255
		}
	}
	return l
}

func (d *draws) plane(w, h int) api.Plane {
	return api.Plane{W: w, H: h, Pix: d.samples(w * h)}
}

func (d *draws) frame(w, h int) api.Frame {
	return api.Frame{P: [3]api.Plane{d.plane(w, h), d.plane(w/2, h/2), d.plane(w/2, h/2)}}
}

// alike are n times one sample.
func alike(n int, v uint8) []uint8 { return slices.Repeat([]uint8{v}, n) }

// frames are some that may be: both ends of what sides may be, mixed, and others.
func frames() []api.Frame {
	d := draws(15)
	var l []api.Frame
	for _, s := range [][2]int{{16, 16}, {16, 256}, {256, 16}, {256, 256}, {18, 16}, {16, 18}, {40, 24}, {66, 130}, {254, 34}} {
		l = append(l, d.frame(s[0], s[1]))
	}
	return l
}

// move is what is asked of a frame: a plane, a rectangle, a vector and a kind of filters.
type move struct {
	n    int
	r    api.Rect
	v    api.Vec
	kind int
}

// move is any one whose block lies about a plane, moved and not: inside, over its edges, or a little beyond.
func (d *draws) move(f api.Frame) move {
	n := d.below(3)
	p := f.P[n]
	m := move{n: n, r: api.Rect{W: d.from(4, 20), H: d.from(4, 20)}, kind: d.below(3)}
	m.r.X, m.r.Y = d.below(p.W+24), d.below(p.H+24)
	m.v.X, m.v.Y = d.from(-320, 320), d.from(-320, 320)
	return m
}

// place is where a moved block begins, in sixteenths of the plane's samples: a vector is in eighths of samples of brightness, which are sixteenths of those of colour.
func place(m move) (int, int) {
	if m.n == 0 {
		return 16*m.r.X + 2*m.v.X, 16*m.r.Y + 2*m.v.Y
	}
	return 16*m.r.X + m.v.X, 16*m.r.Y + m.v.Y
}

// over is a number divided, rounded down, and what is left of it: never below 0.
func over(n, by int) (int, int) {
	q, rest := n/by, n%by
	if rest < 0 {
		return q - 1, rest + by
	}
	return q, rest
}

// rounded is a number divided, to the nearest, up from the middle.
func rounded(n, by int) int {
	q, rest := over(n, by)
	if 2*rest >= by {
		return q + 1
	}
	return q
}

// near is a sample, or the nearest one.
func near(p api.Plane, x, y int) int {
	switch {
	case x < 0:
		return near(p, 0, y)
	case x >= p.W:
		return near(p, p.W-1, y)
	case y < 0:
		return near(p, x, 0)
	case y >= p.H:
		return near(p, x, p.H-1)
	}
	return int(p.Pix[y*p.W+x])
}

// tapped is the sum of eight numbers, each by its tap; they are asked for from -3 on.
func tapped(t *testing.T, kind, at int, number func(k int) int) int {
	t.Helper()
	taps, e := subpel.Taps(kind, at)
	if e != api.OK {
		t.Fatalf("no taps of %d at %d: %d", kind, at, e)
	}
	sum := 0
	for k, tap := range taps {
		if tap != 0 {
			sum += tap * number(k-3)
		}
	}
	return sum
}

// model is a moved block, sample by sample: along rows, then down columns.
func model(t *testing.T, f api.Frame, m move) []uint8 {
	t.Helper()
	x, y := place(m)
	x, atX := over(x, 16)
	y, atY := over(y, 16)
	var l []uint8
	for j := range m.r.H {
		for i := range m.r.W {
			sum := tapped(t, m.kind, atY, func(down int) int {
				return rounded(tapped(t, m.kind, atX, func(across int) int {
					return near(f.P[m.n], x+i+across, y+j+down)
				}), 8)
			})
			l = append(l, uint8(max(0, min(rounded(sum, 2048), 255))))
		}
	}
	return l
}

// standing is what stands at a rectangle of a plane, of what is nearest where there is nothing.
func standing(p api.Plane, r api.Rect) []uint8 {
	var l []uint8
	for y := range r.H {
		for x := range r.W {
			l = append(l, uint8(near(p, r.X+x, r.Y+y)))
		}
	}
	return l
}

// single is a block that there must be.
func single(t *testing.T, f api.Frame, m move) []uint8 {
	t.Helper()
	l, e := motion.Single(f, m.n, m.r, m.v, m.kind)
	if e != api.OK || len(l) != m.r.W*m.r.H {
		t.Fatalf("%d by %d, %+v: %d samples, %d", f.P[0].W, f.P[0].H, m, len(l), e)
	}
	return l
}

// singleIs asks for just these samples.
func singleIs(t *testing.T, f api.Frame, m move, want ...uint8) {
	t.Helper()
	if l := single(t, f, m); !slices.Equal(l, want) {
		t.Fatalf("%d by %d, %+v: %v, want %v", f.P[0].W, f.P[0].H, m, l, want)
	}
}

// asModel asks for what the model has, and for what the chapter says of subpel.Fetch.
func asModel(t *testing.T, f api.Frame, m move) {
	t.Helper()
	singleIs(t, f, m, model(t, f, m)...)
	asFetched(t, f, m)
}

// asFetched asks for the block of subpel.Fetch.
func asFetched(t *testing.T, f api.Frame, m move) {
	t.Helper()
	x, y := place(m)
	want, e := subpel.Fetch(f.P[m.n], x, y, m.r.W, m.r.H, m.kind)
	if e != api.OK {
		t.Fatalf("%+v: %d", m, e)
	}
	singleIs(t, f, m, want...)
}

// noSingle asks for ErrArg, and for nothing beside it.
func noSingle(t *testing.T, f api.Frame, m move) {
	t.Helper()
	if l, e := motion.Single(f, m.n, m.r, m.v, m.kind); e != api.ErrArg || len(l) != 0 {
		t.Fatalf("%d by %d, %+v: %d samples, %d", f.P[0].W, f.P[0].H, m, len(l), e)
	}
}

// way is one of both blends, and along which side of r its weights go.
type way struct {
	name  string
	call  func(own []uint8, w int, r api.Rect, other []uint8) ([]uint8, api.Errno)
	depth func(r *api.Rect) *int
	along func(r *api.Rect) *int
	index func(x, y int) int
}

func ways() []way {
	width, height := func(r *api.Rect) *int { return &r.W }, func(r *api.Rect) *int { return &r.H }
	return []way{
		{"Above", motion.Above, height, width, func(x, y int) int { return y }},
		{"Left", motion.Left, width, height, func(x, y int) int { return x }},
	}
}

// blend is what is asked of a way.
type blend struct {
	own   []uint8
	w     int
	r     api.Rect
	other []uint8
}

// blend is any one that there is of a way.
func (d *draws) blend(k way) blend {
	n := d.from(4, 32)
	r := api.Rect{X: d.below(30), Y: d.below(30)}
	*k.depth(&r), *k.along(&r) = n, d.from(1, 30)
	w, rows := d.from(r.X+r.W, 64), d.from(r.Y+r.H, 64)
	return blend{d.samples(w * rows), w, r, d.samples(r.W * r.H)}
}

// weight is the i-th one of n, counted up: how often 2 n goes into (2 i + 1) 32.
func weight(n, i int) int {
	k := 32
	for rest := (2*i + 1) * 32; rest >= 2*n; rest -= 2 * n {
		k++
	}
	return k
}

// modelBlend is a blend, place by place of own.
func modelBlend(k way, b blend) []uint8 {
	var l []uint8
	depth := *k.depth(&b.r)
	for at, own := range b.own {
		x, y := at%b.w-b.r.X, at/b.w-b.r.Y
		if 0 <= x && x < b.r.W && 0 <= y && y < b.r.H {
			m := weight(depth, k.index(x, y))
			own = uint8(rounded(m*int(own)+(64-m)*int(b.other[y*b.r.W+x]), 64))
		}
		l = append(l, own)
	}
	return l
}

// blended is what there must be.
func blended(t *testing.T, k way, b blend) []uint8 {
	t.Helper()
	l, e := k.call(b.own, b.w, b.r, b.other)
	if e != api.OK || len(l) != len(b.own) {
		t.Fatalf("%s of %d in rows of %d, %+v, %d others: %d samples, %d", k.name, len(b.own), b.w, b.r, len(b.other), len(l), e)
	}
	return l
}

// blendedIs asks for just these samples.
func blendedIs(t *testing.T, k way, b blend, want ...uint8) {
	t.Helper()
	if l := blended(t, k, b); !slices.Equal(l, want) {
		t.Fatalf("%s of %v in rows of %d, %+v, %v: %v, want %v", k.name, b.own, b.w, b.r, b.other, l, want)
	}
}

// asModelBlend asks for what the model has.
func asModelBlend(t *testing.T, k way, b blend) {
	t.Helper()
	blendedIs(t, k, b, modelBlend(k, b)...)
}

// noBlend asks for ErrArg, and for nothing beside it.
func noBlend(t *testing.T, k way, b blend) {
	t.Helper()
	if l, e := k.call(b.own, b.w, b.r, b.other); e != api.ErrArg || len(l) != 0 {
		t.Fatalf("%s of %d in rows of %d, %+v, %d others: %d samples, %d", k.name, len(b.own), b.w, b.r, len(b.other), len(l), e)
	}
}
