package intra_test

import (
	"testing"

	"zoetrope/api"
)

// The mean rounds up from the middle, and counts what is there alone (P12.2).
func TestDc(t *testing.T) {
	m := turned{api.ModeDc, 0}
	for _, x := range []struct {
		e    api.Edges
		want uint8
	}{
		{edges([]uint8{0, 0, 0, 0}, []uint8{0, 0, 0, 3}, 255), 0},
		{edges([]uint8{0, 0, 0, 0}, []uint8{0, 0, 0, 4}, 255), 1},
		{edges([]uint8{4, 0, 0, 0}, []uint8{0, 0, 0, 0}, 255), 1},
		{edges([]uint8{4, 0, 0, 0}, []uint8{0, 0, 7, 0}, 255), 1},
		{edges([]uint8{4, 0, 0, 0}, []uint8{0, 0, 8, 0}, 255), 2},
		{edges(alike(4, 255), alike(4, 255), 0), 255},
		{edges(alike(4, 255), alike(4, 0), 0), 128},
		{edges(alike(4, 0), alike(4, 254), 0), 127},
		{aboveAlone(edges([]uint8{0, 0, 0, 1}, nil, 255)), 0},
		{aboveAlone(edges([]uint8{0, 0, 0, 2}, nil, 255)), 1},
		{aboveAlone(edges([]uint8{9, 8, 7, 6}, nil, 255)), 8},
		{leftAlone(edges(nil, []uint8{1, 0, 0, 0}, 255)), 0},
		{leftAlone(edges(nil, []uint8{2, 0, 0, 0}, 255)), 1},
		{leftAlone(edges(nil, []uint8{3, 4, 4, 5}, 255)), 4},
		{none(edges(nil, nil, 255)), 128},
	} {
		is(t, 4, m, x.e, alike(16, x.want)...)
	}
	for _, n := range sizes() {
		is(t, n, m, edges(alike(n, 255), alike(n, 0), 0), alike(n*n, 128)...)
		is(t, n, m, aboveAlone(edges(alike(n, 255), nil, 0)), alike(n*n, 255)...)
		is(t, n, m, leftAlone(edges(nil, alike(n, 0), 99)), alike(n*n, 0)...)
		l := alike(n, 0)
		for i := range n / 2 {
			l[i] = 1
		}
		is(t, n, m, aboveAlone(edges(l, nil, 0)), alike(n*n, 1)...)
		is(t, n, m, leftAlone(edges(nil, l, 0)), alike(n*n, 1)...)
		is(t, n, m, edges(l, alike(n, 0), 0), alike(n*n, 0)...)
		is(t, n, m, edges(l, l, 0), alike(n*n, 1)...)
	}
}

// Straight directions repeat an edge (P12.2).
func TestStraight(t *testing.T) {
	for _, n := range sizes() {
		for _, e := range sorts(n) {
			v, h := must(t, n, turned{api.ModeV, 0}, e), must(t, n, turned{api.ModeH, 0}, e)
			for i := range n * n {
				if v[i] != e.Above[i%n] || h[i] != e.Left[i/n] {
					t.Fatalf("size %d, at %d, %d: %d and %d", n, i%n, i/n, v[i], h[i])
				}
			}
		}
	}
}

// weightsOf are the weights of the smooth modes, worked out by hand: 224 parts in steps of so many, rounded down.
func weightsOf(n int) []int {
	return map[int][]int{
		4:  {255, 181, 106, 31},
		8:  {255, 223, 191, 159, 127, 95, 63, 31},
		16: {255, 241, 226, 211, 196, 181, 166, 151, 136, 121, 106, 91, 76, 61, 46, 31},
	}[n]
}

// Weights of the smooth modes at each place: of 256 nothing else is seen where one edge is 0 and the other one 255 (P12.2).
func TestSmoothWeights(t *testing.T) {
	for _, n := range []int{4, 8, 16} {
		dark, light := alike(n, 0), alike(n, 255)
		v, h := turned{api.ModeSmoothV, 0}, turned{api.ModeSmoothH, 0}
		for i, w := range weightsOf(n) {
			lit, rest := uint8((255*w+128)/256), uint8((255*(256-w)+128)/256)
			rowIs(t, n, v, edges(light, dark, 7), i, alike(n, lit)...)
			rowIs(t, n, v, edges(dark, light, 7), i, alike(n, rest)...)
			for y := range n {
				atIs(t, n, h, edges(dark, light, 7), i, y, lit)
				atIs(t, n, h, edges(light, dark, 7), i, y, rest)
			}
		}
	}
}

// Weights at both ends are the same of every size: 255 and 31 of 256 (P12.2).
func TestSmoothEnds(t *testing.T) {
	for _, n := range sizes() {
		e := edges(alike(n, 255), alike(n, 0), 7)
		for i := range n {
			atIs(t, n, turned{api.ModeSmoothV, 0}, e, i, 0, 254)
			atIs(t, n, turned{api.ModeSmoothV, 0}, e, i, n-1, 31)
			atIs(t, n, turned{api.ModeSmoothH, 0}, e, 0, i, 1)
			atIs(t, n, turned{api.ModeSmoothH, 0}, e, n-1, i, 224)
		}
		// 255 (255 + 1) of 512, and 255 (31 + 225), and so on
		atIs(t, n, turned{api.ModeSmooth, 0}, e, 0, 0, 128)
		atIs(t, n, turned{api.ModeSmooth, 0}, e, n-1, n-1, 128)
		atIs(t, n, turned{api.ModeSmooth, 0}, e, n-1, 0, 239)
		atIs(t, n, turned{api.ModeSmooth, 0}, e, 0, n-1, 16)
	}
}

// Which samples the smooth modes mix: of the farther edge its last one (P12.2).
func TestSmoothOf(t *testing.T) {
	e := edges([]uint8{10, 20, 30, 40}, []uint8{50, 60, 70, 80}, 5)
	is(t, 4, turned{api.ModeSmoothV, 0}, e, 10, 20, 30, 40, 31, 38, 45, 52, 51, 55, 59, 63, 72, 73, 74, 75)
	// nothing but one sample is not 0: where it counts, and how much
	one := func(above, left, at int) api.Edges {
		a, l := alike(4, 0), alike(4, 0)
		if above > 0 {
			a[at] = 255
		}
		if left > 0 {
			l[at] = 255
		}
		return edges(a, l, 255)
	}
	is(t, 4, turned{api.ModeSmooth, 0}, one(0, 1, 3), 0, 0, 0, 0, 37, 37, 37, 37, 75, 75, 75, 75, 239, 202, 165, 128)
	is(t, 4, turned{api.ModeSmooth, 0}, one(1, 0, 0), 127, 0, 0, 0, 90, 0, 0, 0, 53, 0, 0, 0, 15, 0, 0, 0)
	is(t, 4, turned{api.ModeSmoothV, 0}, one(0, 1, 2), alike(16, 0)...)
	is(t, 4, turned{api.ModeSmoothH, 0}, one(1, 0, 2), alike(16, 0)...)
	is(t, 4, turned{api.ModeSmoothV, 0}, one(0, 1, 3), columnsOf4(1, 75, 149, 224)...)
	is(t, 4, turned{api.ModeSmoothH, 0}, one(1, 0, 3), rowsOf4(1, 75, 149, 224)...)
}

// paethOf is a Paeth prediction's first sample of three.
func paethOf(t *testing.T, left, above, corner, want uint8) {
	t.Helper()
	e := edges([]uint8{above, 1, 2, 3}, []uint8{left, 4, 5, 6}, corner)
	atIs(t, 4, turned{api.ModePaeth, 0}, e, 0, 0, want)
}

// Paeth's order where several are as near: left, above, corner (P12.2).
func TestPaethOrder(t *testing.T) {
	for _, x := range []struct{ left, above, corner, want uint8 }{
		{50, 10, 5, 50},    // towards 55: left
		{10, 50, 5, 50},    // towards 55: above
		{0, 20, 10, 10},    // towards 10: corner
		{20, 0, 10, 10},    // towards 10: corner
		{10, 20, 16, 16},   // towards 14: corner, 2 away
		{0, 15, 10, 0},     // towards 5: left and corner, 5 away
		{20, 5, 10, 20},    // towards 15: left and corner, 5 away
		{15, 0, 10, 0},     // towards 5: above and corner, 5 away
		{5, 20, 10, 20},    // towards 15: above and corner, 5 away
		{0, 16, 10, 10},    // towards 6: corner, 4 away
		{0, 14, 10, 0},     // towards 4: left, 4 away
		{16, 0, 10, 10},    // towards 6: corner, 4 away
		{14, 0, 10, 0},     // towards 4: above, 4 away
		{9, 9, 200, 9},     // towards -182: left and above
		{0, 255, 255, 0},   // towards 0: left
		{255, 0, 255, 0},   // towards 0: above
		{0, 0, 255, 0},     // towards -255
		{255, 255, 0, 255}, // towards 510
		{10, 10, 10, 10},
	} {
		paethOf(t, x.left, x.above, x.corner, x.want)
	}
}

// Paeth takes left by the row, above by the column (P12.2).
func TestPaethPlaces(t *testing.T) {
	e := edges([]uint8{100, 200, 0, 50}, []uint8{100, 0, 250, 40}, 100)
	is(t, 4, turned{api.ModePaeth, 0}, e,
		100, 200, 0, 50,
		0, 100, 0, 0,
		250, 250, 100, 250,
		40, 100, 0, 40)
}
