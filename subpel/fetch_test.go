package subpel_test

import (
	"slices"
	"testing"

	"zoetrope/api"
)

// The chapter's rows of blocks (P14.2).
func TestExamplesOfFetch(t *testing.T) {
	p := four()
	rows := func(row ...uint8) []uint8 { return slices.Repeat(row, 4) }
	fetchedIs(t, p, block{0, 0, 4, 4, 0}, rows(0, 100, 100, 0)...)
	fetchedIs(t, p, block{16, 99, 4, 4, 1}, rows(100, 100, 0, 0)...)
	fetchedIs(t, p, block{8, 0, 4, 4, 2}, rows(50, 100, 50, 0)...)
	fetchedIs(t, p, block{-16, 0, 4, 4, 2}, rows(0, 0, 100, 100)...)
	refused(t, p, block{0, 0, 3, 4, 0})
	refused(t, p, block{1<<20 + 1, 0, 4, 4, 0})
	refused(t, p, block{0, 0, 4, 4, -1})
}

// rowIs asks for one row, of a plane of that row alone.
func rowIs(t *testing.T, l []uint8, x, kind int, want ...uint8) {
	t.Helper()
	fetchedIs(t, api.Plane{W: len(l), H: 1, Pix: l}, block{x, 0, len(want), 4, kind}, slices.Repeat(want, 4)...)
}

// columnIs asks for one column, of a plane of that column alone.
func columnIs(t *testing.T, l []uint8, y, kind int, want ...uint8) {
	t.Helper()
	var rows []uint8
	for _, v := range want {
		rows = append(rows, v, v, v, v)
	}
	fetchedIs(t, api.Plane{W: 1, H: len(l), Pix: l}, block{0, y, 4, len(want), kind}, rows...)
}

// lineIs asks for both, where they are the same.
func lineIs(t *testing.T, l []uint8, at, kind int, want ...uint8) {
	t.Helper()
	rowIs(t, l, at, kind, want...)
	columnIs(t, l, at, kind, want...)
}

// Rows and columns worked out by hand (P14.2).
func TestLinesByHand(t *testing.T) {
	p := []uint8{0, 100, 100, 0}
	// regular: 62 100 is 6200, 775, 48.9; 152 100 is 15200, 1900, 119.25; -12 100 is -1200, -150, below 0
	lineIs(t, p, 8, api.FilterRegular, 48, 119, 48, 0)
	// smooth: 66 100 is 6600, 825, 52.06; 104 100 is 10400, 1300, 81.75; 12 100 is 1200, 150, 9.875
	lineIs(t, p, 8, api.FilterSmooth, 52, 81, 52, 9)
	// smooth, one sixteenth behind a sample: 36 100 is 3600, 450, 28.6; 96 100 is 9600, 1200, 75.5; 90 100 is 9000, 1125, 70.8; 30 100 is 3000, 375, 23.9
	lineIs(t, p, 1, api.FilterSmooth, 28, 75, 70, 23)
	// regular, three sixteenths: 20 100 is 2000, 250, 16.1; 144 100 is 14400, 1800, 113; 104 100 is 10400, 1300, 81.75; -10 100 is -1000, -125, below 0
	lineIs(t, p, 3, api.FilterRegular, 16, 113, 81, 0)
	// the other way round
	lineIs(t, p, -3, api.FilterRegular, 0, 81, 113, 16)
	lineIs(t, p, -1, api.FilterSmooth, 23, 70, 75, 28)
}

// Places below 0 are rounded down: just ahead of a sample is far behind the one ahead of it (P14.2).
func TestPlacesBelowNought(t *testing.T) {
	p := []uint8{0, 100, 100, 0}
	lineIs(t, p, -1, api.FilterBilinear, 0, 94, 100, 6)
	lineIs(t, p, -8, api.FilterBilinear, 0, 50, 100, 50)
	lineIs(t, p, -15, api.FilterBilinear, 0, 6, 100, 94)
	lineIs(t, p, -16, api.FilterBilinear, 0, 0, 100, 100)
	lineIs(t, p, -17, api.FilterBilinear, 0, 0, 94, 100, 6)
	lineIs(t, p, -31, api.FilterBilinear, 0, 0, 6, 100, 94)
	lineIs(t, p, -33, api.FilterBilinear, 0, 0, 0, 94, 100, 6)
	lineIs(t, p, -65, api.FilterBilinear, 0, 0, 0, 0, 0, 94, 100, 6)
	lineIs(t, p, 1, api.FilterBilinear, 6, 100, 94, 0)
	lineIs(t, p, 15, api.FilterBilinear, 94, 100, 6, 0)
	lineIs(t, p, 17, api.FilterBilinear, 100, 94, 0, 0)
	d := draws(1)
	q := d.plane(12, 11)
	for x := -100; x < 0; x++ {
		for _, kind := range kinds() {
			asModel(t, q, block{x, 20, 6, 5, kind})
			asModel(t, q, block{20, x, 6, 5, kind})
			asModel(t, q, block{x, x, 6, 5, kind})
		}
	}
}

// Samples that would be below 0 or above 255 are brought to these (P14.2).
func TestClipped(t *testing.T) {
	// 62 255 is 15810, 1976, 124; 152 255 is 38760, 4845, 303; -12 255 is -3060, -382, -24
	lineIs(t, []uint8{0, 255, 255, 0}, 8, api.FilterRegular, 124, 255, 124, 0)
	// 66 255 is 16830, 2104, 131.5, so 132, and of a column, which is rounded once, 131.48; -24 255 is -6120, -765, -47; 140 255 is 35700, 4463, 279
	rowIs(t, []uint8{255, 0, 0, 255}, 8, api.FilterRegular, 132, 0, 132, 255)
	columnIs(t, []uint8{255, 0, 0, 255}, 8, api.FilterRegular, 131, 0, 131, 255)
	// a sixteenth ahead: -4 255 is -1020, -127, -8; 120 255 is 30600, 3825, 239; 134 255 is 34170, 4271, 267; 6 255 is 1530, 191, 12
	lineIs(t, []uint8{0, 255, 255, 0}, -1, api.FilterRegular, 0, 239, 255, 12)
	d := draws(2)
	for range 200 {
		asModel(t, d.sharp(9, 9), block{d.below(100), d.below(100), 6, 6, api.FilterRegular})
	}
}

// Sums of rows are rounded at the middle, before any column is summed (P14.2).
func TestSumsOfRowsRounded(t *testing.T) {
	// smooth, a quarter behind: 60 is 7.5, so 8, which is half a sample, so 1; 42 is 5.25 and 20 is 2.5
	rowIs(t, []uint8{0, 0, 0, 1, 0, 0, 0, 0}, 4, api.FilterSmooth, 0, 0, 0, 1, 0, 0, 0, 0)
	// of a column 60 is 60 over 128, less than half a sample, and 64 would be half of it
	columnIs(t, []uint8{0, 0, 0, 1, 0, 0, 0, 0}, 4, api.FilterSmooth, 0, 0, 0, 0, 0, 0, 0, 0)
	// five sixteenths: 58 is 7.25, so 7, which is less than half a sample
	rowIs(t, []uint8{0, 0, 0, 1, 0, 0, 0, 0}, 5, api.FilterSmooth, 0, 0, 0, 0, 0, 0, 0, 0)
	// three sixteenths: 62 is 7.75, so 8
	rowIs(t, []uint8{0, 0, 0, 1, 0, 0, 0, 0}, 3, api.FilterSmooth, 0, 0, 0, 1, 0, 0, 0, 0)
}

// Sums below 0 are rounded at the middle as those above it are: upwards (P14.2).
func TestSumsBelowNoughtRounded(t *testing.T) {
	// all are 1, so 16, but for one row, which weighs -14: then 142 16 is 2272, and 1824 more make a 2, which are 58 times 14 and 12 more
	first := func(second, third uint8) uint8 {
		p := api.Plane{W: 8, H: 8, Pix: alike(64, uint8(1))}
		copy(p.Pix[16:], []uint8{0, second, third, 0, 0, 0, 0, 0})
		return fetched(t, p, block{3*16 + 8, 3*16 + 8, 4, 4, api.FilterRegular})[0]
	}
	for _, c := range []struct{ second, third, want uint8 }{
		{0, 33, 2}, // -462 is -57.75, so -58
		{1, 33, 1}, // -460 is -57.5, so -57
		{2, 33, 1}, // -458 is -57.25
		{5, 33, 1}, // -452 is -56.5
		{4, 34, 2}, // -468 is -58.5, so -58
	} {
		if got := first(c.second, c.third); got != c.want {
			t.Errorf("%d %d: %d, want %d", c.second, c.third, got, c.want)
		}
	}
}

// Sums of columns are rounded at the middle (P14.2).
func TestSumsOfColumnsRounded(t *testing.T) {
	for v := range 255 {
		a := uint8(v)
		row := []uint8{a, a + 1, a + 1, a, a, a, a, a}
		lineIs(t, row, 7, api.FilterBilinear, a, a+1, a+1, a)
		lineIs(t, row, 8, api.FilterBilinear, a+1, a+1, a+1, a)
		lineIs(t, row, 9, api.FilterBilinear, a+1, a+1, a, a)
	}
	// of four samples one, two and three are greater by 1
	for more, want := range []uint8{9, 9, 10, 10, 10} {
		l := []uint8{9, 9, 9, 9}
		for i := range more {
			l[i]++
		}
		for range 4 {
			l = append(l[1:], l[0])
			if got := fetched(t, samples(2, 2, l...), block{8, 8, 4, 4, api.FilterBilinear})[0]; got != want {
				t.Errorf("%v: %d, want %d", l, got, want)
			}
		}
	}
}

// Other ways of rounding would be seen: towards 0, down from the middle, away from 0 at the middle, to what is even at the middle, and always down (P14.2).
func TestRoundingIsSeen(t *testing.T) {
	others := map[string]func(n, by int) int{
		"towards 0":            func(n, by int) int { return (n + by/2) / by },
		"down from the middle": func(n, by int) int { return -rounded(-n, by) },
		"away from 0": func(n, by int) int {
			if n < 0 {
				return -rounded(-n, by)
			}
			return rounded(n, by)
		},
		"to even": func(n, by int) int {
			if q, rest := over(n, by); 2*rest == by && q%2 == 0 {
				return q
			}
			return rounded(n, by)
		},
		"down": func(n, by int) int { q, _ := over(n, by); return q },
	}
	seen := map[string]bool{}
	d := draws(3)
	for range 400 {
		p := api.Plane{W: 16, H: 16, Pix: d.samples(256, 0, 2)}
		if d.below(2) == 0 {
			p = d.sharp(16, 16)
		}
		b := block{d.below(16 * 8), d.below(16 * 8), 8, 8, d.below(3)}
		want := model(p, b, rounded)
		fetchedIs(t, p, b, want...)
		for name, round := range others {
			seen[name] = seen[name] || !slices.Equal(model(p, b, round), want)
		}
	}
	for name := range others {
		if !seen[name] {
			t.Errorf("rounding %s is not seen", name)
		}
	}
}

// All 256 places between samples by all kinds, of samples of all sorts (P14.2).
func TestEveryPlace(t *testing.T) {
	d := draws(4)
	for _, p := range []api.Plane{d.plane(16, 15), d.sharp(15, 16)} {
		for _, kind := range kinds() {
			for f := range 16 {
				for g := range 16 {
					asModel(t, p, block{5*16 + f, 4*16 + g, 5, 6, kind})
					asModel(t, p, block{-3*16 + f, 12*16 + g, 4, 4, kind})
				}
			}
		}
	}
}

// One sample that is another goes into just those samples whose taps reach it, by both taps (P14.2).
func TestOneSample(t *testing.T) {
	const w, h, atX, atY = 24, 23, 11, 10
	for _, c := range []struct{ other, v int }{{0, 255}, {255, 0}, {100, 103}, {40, 250}} {
		p := api.Plane{W: w, H: h, Pix: alike(w*h, uint8(c.other))}
		p.Pix[atY*w+atX] = uint8(c.v)
		for _, kind := range kinds() {
			for place := range 256 {
				f, g := place%16, place/16
				across, down := known(kind, f), known(kind, g)
				got := fetched(t, p, block{16 + f, 16 + g, 20, 18, kind})
				for i, v := range got {
					x, y := 1+i%20, 1+i/20
					want := uint8(c.other)
					if k, l := atX-x+3, atY-y+3; 0 <= k && k < 8 && 0 <= l && l < 8 {
						m := rounded(128*c.other+across[k]*(c.v-c.other), 8)
						want = clipped(rounded(128*16*c.other+down[l]*(m-16*c.other), 2048))
					}
					if v != want {
						t.Fatalf("%v, kind %d, %d, %d: %d at %d, %d, want %d", c, kind, f, g, v, x, y, want)
					}
				}
			}
		}
	}
}

// Blocks wholly inside, over each edge and each corner, wholly beyond on each side, and greater than the plane (P14.2).
func TestEdges(t *testing.T) {
	d := draws(5)
	for _, p := range []api.Plane{d.plane(20, 17), d.sharp(17, 20), d.plane(12, 3)} {
		at := func(side, n int) []int {
			return []int{-200, -n - 5, -n - 4, -n - 3, -n - 1, -n, -n + 1, -4, -3, -2, -1, 0, 1, 2, 3, 4, side/2 - n/2, side - n - 5, side - n - 4, side - n - 3, side - n - 1, side - n, side - n + 1, side - 2, side - 1, side, side + 1, side + 3, side + 4, side + 200}
		}
		for _, kind := range kinds() {
			for _, x := range at(p.W, 7) {
				for _, y := range at(p.H, 6) {
					asModel(t, p, block{16*x + d.below(16), 16*y + d.below(16), 7, 6, kind})
				}
			}
			asModel(t, p, block{-16*9 + d.below(16), -16*8 + d.below(16), 40, 39, kind})
		}
	}
}

// Planes of all shapes, blocks anywhere about them (P14.2).
func TestPlanes(t *testing.T) {
	d := draws(6)
	for _, p := range planes() {
		for range 60 {
			asModel(t, p, d.block(p))
		}
		asModel(t, p, block{16*p.W - 16*32 + d.below(16), 16*p.H - 16*32 + d.below(16), 64, 64, d.below(3)})
	}
}

// Blocks of every size from 4 to 64, and of both ends mixed (P14.2).
func TestSizes(t *testing.T) {
	d := draws(7)
	p := d.plane(70, 66)
	for n := 4; n <= 64; n++ {
		asModel(t, p, block{d.below(100), d.below(100), n, 4 + d.below(61), d.below(3)})
		asModel(t, p, block{d.below(100), d.below(100), 4 + d.below(61), n, d.below(3)})
	}
	for _, kind := range kinds() {
		for _, s := range [][2]int{{4, 4}, {4, 64}, {64, 4}, {64, 64}, {5, 63}, {63, 5}} {
			asModel(t, p, block{37, 53, s[0], s[1], kind})
			asModel(t, p, block{-37, 530, s[0], s[1], kind})
		}
	}
}

// As far out as a block may begin there is what is nearest (P14.2).
func TestFarOut(t *testing.T) {
	d := draws(8)
	ends := []int{-far20, -far20 + 1, -far20 + 15, far20, far20 - 1, far20 - 15}
	for _, p := range []api.Plane{d.plane(9, 8), d.sharp(8, 9), d.plane(1, 1), d.plane(512, 512)} {
		for _, kind := range kinds() {
			for _, x := range ends {
				for _, y := range ends {
					corner := near(p, x, y)
					fetchedIs(t, p, block{x, y, 4, 4, kind}, alike(16, uint8(corner))...)
					fetchedIs(t, p, block{x, y, 64, 64, kind}, alike(4096, uint8(corner))...)
				}
				asModel(t, p, block{x, 37, 4, 5, kind})
				asModel(t, p, block{37, x, 5, 4, kind})
				asModel(t, p, block{x, -5, 5, 4, kind})
				asModel(t, p, block{-5, x, 4, 5, kind})
			}
		}
	}
}
