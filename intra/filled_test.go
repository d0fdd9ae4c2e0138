package intra_test

import (
	"slices"
	"testing"

	"zoetrope/api"
)

// Edges that are not there are filled by what is: each mode predicts as it does of both, filled (P12.2).
func TestFilledByWhatIsThere(t *testing.T) {
	d := draws(11)
	for _, n := range sizes() {
		for range 8 {
			above, left := d.samples(n), d.samples(n)
			for _, m := range all() {
				if m.mode == api.ModeDc {
					continue // it takes none but what is there
				}
				for _, x := range []struct{ missing, whole api.Edges }{
					{aboveAlone(edges(above, nil, 0)), edges(above, alike(n, above[0]), above[0])},
					{leftAlone(edges(nil, left, 0)), edges(alike(n, left[0]), left, left[0])},
					{api.Edges{}, edges(alike(n, 127), alike(n, 129), 128)},
				} {
					if !slices.Equal(must(t, n, m, x.missing), must(t, n, m, x.whole)) {
						t.Fatalf("size %d, mode %v: %v and %v", n, m, x.missing, x.whole)
					}
				}
			}
		}
	}
}

// Without edges, by hand: 127 above, 129 to the left, 128 at the corner (P12.2).
func TestWithoutEdges(t *testing.T) {
	for _, n := range sizes() {
		e := api.Edges{Corner: 77}
		is(t, n, turned{api.ModeDc, 0}, e, alike(n*n, 128)...)
		is(t, n, turned{api.ModeV, 0}, e, alike(n*n, 127)...)
		is(t, n, turned{api.ModeH, 0}, e, alike(n*n, 129)...)
		is(t, n, turned{api.ModePaeth, 0}, e, alike(n*n, 128)...)
		for delta := -3; delta <= 3; delta++ {
			is(t, n, turned{api.ModeD45, delta}, e, alike(n*n, 127)...)
		}
		b := must(t, n, turned{api.ModeD135, 0}, e)
		for i := range b {
			want := 128
			if i%n > i/n {
				want = 127
			} else if i%n < i/n {
				want = 129
			}
			if int(b[i]) != want {
				t.Fatalf("D135 of %d at %d, %d: %d, want %d", n, i%n, i/n, b[i], want)
			}
		}
	}
}

// With one edge alone, by hand (P12.2).
func TestOneEdgeAlone(t *testing.T) {
	a, l := aboveAlone(four()), leftAlone(four())
	is(t, 4, turned{api.ModeH, 0}, a, alike(16, 10)...)
	is(t, 4, turned{api.ModeV, 0}, l, alike(16, 50)...)
	is(t, 4, turned{api.ModeV, 0}, a, rowsOf4(10, 20, 30, 40)...)
	is(t, 4, turned{api.ModeH, 0}, l, columnsOf4(50, 60, 70, 80)...)
	is(t, 4, turned{api.ModeDc, 0}, a, alike(16, 25)...)
	is(t, 4, turned{api.ModeDc, 0}, l, alike(16, 65)...)
	is(t, 4, turned{api.ModeD135, 0}, a, 10, 10, 20, 30, 10, 10, 10, 20, 10, 10, 10, 10, 10, 10, 10, 10)
	is(t, 4, turned{api.ModeD135, 0}, l, 50, 50, 50, 50, 50, 50, 50, 50, 60, 50, 50, 50, 70, 60, 50, 50)
	is(t, 4, turned{api.ModePaeth, 0}, a, rowsOf4(10, 20, 30, 40)...)
	is(t, 4, turned{api.ModePaeth, 0}, l, columnsOf4(50, 60, 70, 80)...)
	is(t, 4, turned{api.ModeSmoothV, 0}, a, 10, 20, 30, 40, 10, 17, 24, 31, 10, 14, 18, 22, 10, 11, 12, 14)
	is(t, 4, turned{api.ModeSmoothH, 0}, l, 50, 50, 50, 50, 60, 57, 54, 51, 70, 64, 58, 52, 80, 71, 62, 54)
	is(t, 4, turned{api.ModeD45, 3}, l, alike(16, 50)...)
	is(t, 4, turned{api.ModeD203, 3}, a, alike(16, 10)...)
}
