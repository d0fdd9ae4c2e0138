package intra_test

import (
	"testing"

	"zoetrope/api"
)

// Slants whose angle is a mode's own, worked out by hand: edges as they are (P12.2).
func TestSlantsByHand(t *testing.T) {
	is(t, 4, turned{api.ModeD67, 0}, four(),
		14, 24, 34, 40,
		18, 28, 38, 40,
		23, 33, 40, 40,
		27, 37, 40, 40)
	is(t, 4, turned{api.ModeD203, 0}, four(),
		54, 58, 63, 67,
		64, 68, 73, 77,
		74, 78, 80, 80,
		80, 80, 80, 80)
	is(t, 4, turned{api.ModeD113, 0}, four(),
		8, 16, 26, 36,
		6, 12, 22, 32,
		33, 9, 17, 27,
		56, 7, 13, 23)
}

// D45 and D135 go from sample to sample (P12.2).
func TestDiagonals(t *testing.T) {
	for _, n := range sizes() {
		for _, e := range sorts(n) {
			a, b := must(t, n, turned{api.ModeD45, 0}, e), must(t, n, turned{api.ModeD135, 0}, e)
			for i := range n * n {
				x, y := i%n, i/n
				if want := e.Above[min(x+y+1, n-1)]; a[i] != want {
					t.Fatalf("D45 of %d at %d, %d: %d, want %d", n, x, y, a[i], want)
				}
				want := e.Corner
				if x > y {
					want = e.Above[x-y-1]
				} else if y > x {
					want = e.Left[y-x-1]
				}
				if b[i] != want {
					t.Fatalf("D135 of %d at %d, %d: %d, want %d", n, x, y, b[i], want)
				}
			}
		}
	}
}

// spike is a row of n noughts, but for one sample.
func spike(n, at int, v uint8) []uint8 {
	l := alike(n, 0)
	l[at] = v
	return l
}

// Smoothed edges: where a slant meets them just at a sample, that is seen (P12.2).
func TestSmoothedByHand(t *testing.T) {
	m, dark := turned{api.ModeD67, -3}, alike(8, 0) // 58: 40 for each row, 5 samples for all eight
	rowIs(t, 8, m, edges(spike(8, 6, 64), alike(8, 200), 0), 7, 16, 32, 16, 0, 0, 0, 0, 0)
	rowIs(t, 8, m, edges(spike(8, 7, 64), alike(8, 200), 0), 7, 0, 16, 48, 64, 64, 64, 64, 64)
	rowIs(t, 8, m, edges(spike(8, 6, 5), dark, 0), 7, 1, 3, 1, 0, 0, 0, 0, 0) // 5, 10, 5 over 4: up from the middle
	rowIs(t, 8, m, edges(spike(8, 6, 6), dark, 0), 7, 2, 3, 2, 0, 0, 0, 0, 0)
	m = turned{api.ModeD203, 3} // 212: the same from the left
	for y, v := range []uint8{16, 32, 16, 0, 0, 0, 0, 0} {
		atIs(t, 8, m, edges(alike(8, 200), spike(8, 6, 64), 0), 7, y, v)
	}
	for y, v := range []uint8{0, 16, 48, 64, 64, 64, 64, 64} {
		atIs(t, 8, m, edges(alike(8, 200), spike(8, 7, 64), 0), 7, y, v)
	}
}

// The corner smoothes the first samples of both edges, and is itself not smoothed (P12.2).
func TestSmoothedCorner(t *testing.T) {
	for _, n := range []int{8, 16, 32, 64} {
		e := edges(alike(n, 0), alike(n, 0), 255)
		atIs(t, n, turned{api.ModeV, -1}, e, 0, 0, 62) // 64 and 0, 31 to 1
		atIs(t, n, turned{api.ModeH, 1}, e, 0, 0, 62)
		atIs(t, n, turned{api.ModeV, 1}, e, 0, 0, 76) // 255 and 64, 2 to 30
		atIs(t, n, turned{api.ModeV, 1}, e, 1, 0, 4)  // 64 and 0, 2 to 30
	}
}

// Without a delta nothing is smoothed or doubled (P12.2).
func TestNeitherWithoutDelta(t *testing.T) {
	for _, n := range sizes() {
		e := edges(spike(n, 1, 64), spike(n, 1, 64), 0)
		atIs(t, n, turned{api.ModeD45, 0}, e, 0, 0, 64)
		atIs(t, n, turned{api.ModeD135, 0}, e, 2, 0, 64)
		atIs(t, n, turned{api.ModeD67, 0}, e, 0, 0, 26)  // 0 and 64, 19 to 13
		atIs(t, n, turned{api.ModeD203, 0}, e, 0, 0, 26) // the same from the left
		atIs(t, n, turned{api.ModeD157, 0}, e, 0, 2, 28) // 64 and 0, 14 to 18
		atIs(t, n, turned{api.ModeD113, 0}, e, 2, 0, 28) // the same from above
	}
}

// Doubled edges, where a slant meets them just at a place between two samples; what is clipped at both ends (P12.2).
func TestDoubledByHand(t *testing.T) {
	for _, x := range []struct{ edge, want []uint8 }{
		{[]uint8{10, 20, 30, 40}, []uint8{36, 41, 40, 40}},
		{[]uint8{0, 0, 255, 255}, []uint8{255, 255, 255, 255}}, // 271, 255
		{[]uint8{0, 255, 0, 0}, []uint8{0, 0, 0, 0}},           // -16
		{[]uint8{0, 0, 0, 255}, []uint8{128, 255, 255, 255}},   // 271 at the second one
		{[]uint8{9, 255, 255, 0}, []uint8{128, 0, 0, 0}},       // -16 at the second one
		{[]uint8{9, 8, 0, 0}, []uint8{0, 0, 0, 0}},             // 0 of -8 and 8
		{[]uint8{9, 9, 0, 0}, []uint8{0, 0, 0, 0}},             // -1
		{[]uint8{0, 0, 0, 1}, []uint8{1, 1, 1, 1}},             // 8 and 8, of 16
		{[]uint8{0, 1, 0, 1}, []uint8{0, 1, 1, 1}},             // 7 and 8, of 16
	} {
		other := []uint8{200, 3, 99, 0}
		rowIs(t, 4, turned{api.ModeD45, -2}, edges(x.edge, other, 77), 1, x.want...) // 39: 80 for each row, two and a half samples for both
		for y, v := range x.want {
			atIs(t, 4, turned{api.ModeD203, 3}, edges(other, x.edge, 77), 3, y, v) // 212: 40 for each column, as far for all four
		}
	}
}

// The corner is a neighbour of doubled edges, and there is a place between it and the first sample (P12.2).
func TestDoubledCorner(t *testing.T) {
	// that place: 18 times 160 less 160 and 0, over 16, is 170; 93 degrees: 29 parts of 32 on the way there
	e := edges([]uint8{160, 0, 0, 0}, alike(4, 0), 160)
	atIs(t, 4, turned{api.ModeV, 1}, e, 0, 0, 161) // 170 and 160, 3 to 29
	// 160 and 0: 9 times 160 less 160, over 16, is 80
	atIs(t, 4, turned{api.ModeV, 1}, edges(alike(4, 0), alike(4, 0), 160), 0, 0, 8)      // 80 and 0, 3 to 29
	atIs(t, 4, turned{api.ModeH, 1}, edges(alike(4, 0), alike(4, 0), 160), 0, 0, 0)      // 0 and what is clipped
	atIs(t, 4, turned{api.ModeD135, 1}, edges(alike(4, 0), alike(4, 0), 160), 0, 0, 143) // 138 degrees, from the left: 160 and 80, 25 to 7
}

// Where a slant meets the corner just so it is told by the edge above; beyond it by the left one (P12.2).
func TestTurnAtTheCorner(t *testing.T) {
	for _, x := range []struct {
		n    int
		m    turned
		x, y int
	}{{8, turned{api.ModeD113, 3}, 4, 7}, {64, turned{api.ModeD135, 3}, 44, 31}, {64, turned{api.ModeD113, 3}, 4, 7}, {64, turned{api.ModeD113, 3}, 9, 15}} {
		e := edges(alike(x.n, 100), alike(x.n, 255), 0)
		atIs(t, x.n, x.m, e, x.x, x.y, 0)
		if v := must(t, x.n, x.m, e)[x.y*x.n+x.x-1]; v <= 100 {
			t.Errorf("size %d, mode %v: just beyond the corner %d", x.n, x.m, v)
		}
		if v := must(t, x.n, x.m, e)[x.y*x.n+x.x+1]; v == 0 || v > 100 {
			t.Errorf("size %d, mode %v: just ahead of the corner %d", x.n, x.m, v)
		}
	}
}

// At the last place, and behind it, an edge goes on with its last sample, as it does ever since the block's end (P12.2).
func TestBehindTheLastPlace(t *testing.T) {
	for _, n := range sizes() {
		e := edges(append(alike(n-1, 3), 250), append(alike(n-1, 3), 250), 3)
		for _, m := range all() {
			if !m.direction() || m.angle() >= 90 && m.angle() <= 180 {
				continue
			}
			b := must(t, n, m, e)
			behind := 0
			for i := range n * n {
				if meets(m, i%n, i/n) < 64*n {
					continue
				}
				if b[i] != 250 {
					t.Fatalf("size %d, mode %v, at %d, %d: %d", n, m, i%n, i/n, b[i])
				}
				if meets(m, i%n, i/n) >= 64*(2*n-1) {
					behind++
				}
			}
			if m.angle() < 45 && behind == 0 {
				t.Errorf("size %d, mode %v: nothing lies behind the last place", n, m)
			}
		}
	}
}

// meets is how far along its edge the slant of a place meets it, in parts of 64 of a sample.
func meets(m turned, x, y int) int {
	if m.angle() > 180 {
		return 64*y + slope(270-m.angle())*(x+1)
	}
	return 64*x + slope(m.angle())*(y+1)
}

// Every mode with every delta, of every size, out of edges of all sorts, whether they are there or not (P12.2).
func TestAgainstTheModel(t *testing.T) {
	for _, n := range sizes() {
		for _, m := range all() {
			for _, e := range sorts(n) {
				for _, f := range columns(e) {
					check(t, n, m, f)
				}
			}
		}
	}
}

// Which samples count how much at each place: one of them alone is not 0, or not 255 (P12.2).
func TestEachSampleAlone(t *testing.T) {
	for _, n := range []int{4, 8, 16} {
		for _, m := range all() {
			for at := range 2*n + 1 {
				for _, v := range []uint8{0, 255} {
					e := edges(alike(n, v), alike(n, v), v)
					switch {
					case at < n:
						e.Above[at] = 255 - v
					case at < 2*n:
						e.Left[at-n] = 255 - v
					default:
						e.Corner = 255 - v
					}
					check(t, n, m, e)
				}
			}
		}
	}
}

// Many small blocks, which have most of what is rounded and clipped (P12.2).
func TestManySmallBlocks(t *testing.T) {
	d := draws(4)
	for range 500 {
		for _, m := range all() {
			check(t, 4, m, d.edges(4))
			check(t, 4, m, d.edges(4, 0, 255, uint8(d.below(256))))
			check(t, 8, m, d.edges(8))
		}
	}
}
