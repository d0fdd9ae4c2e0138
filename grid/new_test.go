package grid_test

import (
	"testing"

	"zoetrope/api"
	"zoetrope/grid"
)

// noGrid asks for ErrArg, and for nothing beside it.
func noGrid(t *testing.T, tile api.Rect) {
	t.Helper()
	if g, e := grid.New(tile); g != nil || e != api.ErrArg {
		t.Fatalf("New(%v): %v, %d", tile, g, e)
	}
}

// reaches is whether a tile may begin there and be so long, one way.
func reaches(from, length int) bool {
	for _, f := range starts() {
		for to := f + 8; to <= 256; to += 8 {
			if f == from && to-f == length {
				return true
			}
		}
	}
	return false
}

// The chapter's row (P17.1).
func TestNewOfExamples(t *testing.T) {
	made(t, rect(0, 0, 64, 64))
	noGrid(t, rect(0, 0, 60, 64))
	noGrid(t, rect(32, 0, 8, 8))
	noGrid(t, rect(192, 0, 72, 8))
}

// Tiles by hand: at both ends of what each number may be, and just beyond (P17.1).
func TestNewByHand(t *testing.T) {
	for _, r := range []api.Rect{
		rect(0, 0, 8, 8), rect(0, 0, 256, 256), rect(192, 192, 8, 8), rect(192, 192, 64, 64), rect(192, 0, 64, 256), rect(0, 192, 256, 64),
		rect(64, 128, 192, 128), rect(128, 64, 128, 192), rect(64, 64, 24, 192), rect(128, 0, 8, 256), rect(0, 128, 256, 8),
	} {
		made(t, r)
	}
	for _, r := range []api.Rect{
		{}, rect(0, 0, 8, 0), rect(0, 0, 0, 8), rect(0, 0, 264, 8), rect(0, 0, 8, 264), rect(0, 0, 257, 8), rect(0, 0, 8, 257),
		rect(256, 0, 8, 8), rect(0, 256, 8, 8), rect(256, 0, 0, 8), rect(-64, 0, 64, 64), rect(0, -64, 64, 64), rect(-64, 0, 128, 64), rect(0, -8, 64, 64),
		rect(192, 0, 72, 64), rect(0, 192, 64, 72), rect(64, 0, 200, 8), rect(0, 64, 8, 200), rect(128, 0, 136, 8), rect(0, 128, 8, 136), rect(64, 64, 256, 256),
		rect(8, 0, 8, 8), rect(0, 8, 8, 8), rect(32, 32, 8, 8), rect(96, 0, 8, 8), rect(0, 96, 8, 8), rect(63, 0, 8, 8), rect(0, 65, 8, 8),
		rect(0, 0, 4, 8), rect(0, 0, 8, 12), rect(0, 0, 7, 8), rect(0, 0, 8, 9), rect(0, 0, 255, 8), rect(0, 0, -8, 8), rect(0, 0, 8, -64),
	} {
		noGrid(t, r)
	}
}

// All tiles that may be: nothing is known, and blocks may be put in their corners and not beyond (P17.1, P17.2).
func TestNew(t *testing.T) {
	var ways [][2]int
	for _, from := range starts() {
		for length := 8; from+length <= 256; length += 8 {
			ways = append(ways, [2]int{from, length})
		}
	}
	for _, x := range ways {
		for _, y := range ways {
			p := pairOf(t, rect(x[0], y[0], x[1], y[1]))
			p.blocks()
			right, lower := x[0]+x[1]-8, y[0]+y[1]-8
			for _, at := range [][2]int{{x[0], y[0]}, {right, y[0]}, {x[0], lower}, {right, lower}} {
				p.at(at[0], at[1])
				p.at(at[0]+7, at[1]+7)
				p.told(at[0], at[1])
			}
			for _, b := range []api.Block{block(x[0]-8, y[0], 8, 8), block(x[0], y[0]-8, 8, 8), block(right+8, lower, 8, 8), block(right, lower+8, 8, 8), block(right, lower, 16, 8), block(right, lower, 8, 16)} {
				p.refused(b)
			}
			p.known(block(x[0], y[0], 8, 8))
			p.put(block(right, y[0], 8, 8))
			p.put(block(x[0], lower, 8, 8))
			p.put(block(right, lower, 8, 8))
			p.blocks()
		}
	}
}

// Every place with every length about what may be, and far away: one way, the other being any that may be or none (P17.1).
func TestNewOfEveryWay(t *testing.T) {
	var numbers []int
	for n := -140; n <= 340; n++ {
		numbers = append(numbers, n)
	}
	numbers = append(numbers, far()...)
	for _, from := range numbers {
		for _, length := range numbers {
			if reaches(from, length) {
				made(t, rect(from, 64, length, 72))
				made(t, rect(64, from, 72, length))
				continue
			}
			noGrid(t, rect(from, 64, length, 72))
			noGrid(t, rect(64, from, 72, length))
			noGrid(t, rect(from, from, length, length))
		}
	}
}

// One number of a tile that may not be, whatever the three others are (P17.1).
func TestNewOfOneWrong(t *testing.T) {
	var lengths []int
	for n := 8; n <= 256; n += 8 {
		lengths = append(lengths, n)
	}
	for _, n := range no(starts()...) {
		for _, w := range []int{8, 64, 256} {
			noGrid(t, rect(n, 0, w, 8))
			noGrid(t, rect(0, n, 8, w))
			noGrid(t, rect(n, 192, w, 64))
			noGrid(t, rect(192, n, 64, w))
			noGrid(t, rect(n, n, w, -w))
		}
	}
	for _, n := range no(lengths...) {
		for _, x := range starts() {
			noGrid(t, rect(x, 0, n, 256))
			noGrid(t, rect(0, x, 256, n))
			noGrid(t, rect(x, x, n, n))
			noGrid(t, rect(x+8, x, n, 8))
		}
	}
}

// nones are grids that are none: nil, a zero one, and what New answers beside an error.
func nones() []*grid.Grid {
	refused, _ := grid.New(rect(32, 0, 8, 8))
	return []*grid.Grid{nil, {}, new(grid.Grid), refused}
}

// Of a grid that is none every method tells so, ahead of what is wrong with its arguments; At and Blocks have nothing (P17.1).
func TestNone(t *testing.T) {
	numbers := append([]int{0, 8, 64, 4, -8, 3}, far()...)
	for _, g := range nones() {
		for _, x := range numbers {
			for _, y := range []int{0, 8, -1, 5, x} {
				for _, b := range []api.Block{block(x, y, 8, 8), block(y, x, 64, 8), block(0, 0, x, y), {}} {
					if e := g.Put(b); e != api.ErrNil {
						t.Fatalf("Put(%v): %d", b, e)
					}
				}
				if b, ok := g.At(x, y); ok || b != (api.Block{}) {
					t.Fatalf("At(%d, %d): %v, %v", x, y, b, ok)
				}
				for _, size := range []int{64, 32, 16, 8, 0, -1, x} {
					if n, e := g.Part(x, y, size); n != 0 || e != api.ErrNil {
						t.Fatalf("Part(%d, %d, %d): %d, %d", x, y, size, n, e)
					}
				}
				if n, e := g.Skip(x, y); n != 0 || e != api.ErrNil {
					t.Fatalf("Skip(%d, %d): %d, %d", x, y, n, e)
				}
				if n, e := g.Inter(x, y); n != 0 || e != api.ErrNil {
					t.Fatalf("Inter(%d, %d): %d, %d", x, y, n, e)
				}
				for _, ref := range []int{0, 2, 3, -1, x} {
					for _, r := range []api.Rect{rect(x, y, 8, 8), rect(0, 0, x, y), {}} {
						if v, n, e := g.Vecs(r, ref); v != [2]api.Vec{} || n != 0 || e != api.ErrNil {
							t.Fatalf("Vecs(%v, %d): %v, %d, %d", r, ref, v, n, e)
						}
					}
				}
			}
		}
		if l := g.Blocks(); len(l) != 0 {
			t.Fatalf("Blocks: %v", l)
		}
	}
}
