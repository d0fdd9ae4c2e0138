package intra_test

import (
	"slices"
	"testing"

	"zoetrope/api"
	"zoetrope/intra"
)

// roomy is an edge with spare room behind its samples, and all of it.
func roomy(l []uint8, spare ...uint8) (edge, room []uint8) {
	room = append(slices.Clone(l), spare...)
	return room[:len(l)], room
}

// What is handed in is only read, its spare room neither read nor written, whether it is refused or not (P12.3).
func TestOnlyRead(t *testing.T) {
	for _, n := range append(sizes(), 0, 5, -4) {
		many := max(n, 0)
		d := draws(n)
		for _, e := range slices.Concat(columns(d.edges(many)), unfit(8), fit(8)) {
			for _, m := range append(all(), turned{13, 0}, turned{-1, 0}, turned{0, 1}, turned{1, 4}) {
				f := e
				var above, left []uint8
				f.Above, above = roomy(e.Above, 255, 0, 99, 1)
				f.Left, left = roomy(e.Left, 0, 255, 3, 98)
				was := [2][]uint8{slices.Clone(above), slices.Clone(left)}
				a, err := intra.Predict(n, m.mode, m.delta, f)
				clipped := e
				clipped.Above, clipped.Left = slices.Clip(slices.Clone(e.Above)), slices.Clip(slices.Clone(e.Left))
				b, want := intra.Predict(n, m.mode, m.delta, clipped)
				if !slices.Equal(a, b) || err != want || intra.Check(n, f) != intra.Check(n, clipped) {
					t.Fatalf("size %d, mode %v: with spare room something else", n, m)
				}
				if !slices.Equal(above, was[0]) || !slices.Equal(left, was[1]) {
					t.Fatalf("size %d, mode %v: edges have changed", n, m)
				}
			}
		}
	}
}

// overwrite fills a list, its spare room too.
func overwrite(l []uint8, v uint8) {
	l = l[:cap(l)]
	for i := range l {
		l[i] = v
	}
}

// What is answered is new memory: it shares none with the edges, nor with another answer (P12.3).
func TestAnswersAreNew(t *testing.T) {
	d := draws(9)
	for _, n := range sizes() {
		for _, m := range all() {
			for _, e := range columns(d.edges(n)) {
				keep := api.Edges{HasAbove: e.HasAbove, HasLeft: e.HasLeft, Above: slices.Clone(e.Above), Left: slices.Clone(e.Left), Corner: e.Corner}
				a, b := must(t, n, m, e), must(t, n, m, e)
				want := slices.Clone(a)
				overwrite(a, 7)
				if !slices.Equal(b, want) || !slices.Equal(e.Above, keep.Above) || !slices.Equal(e.Left, keep.Left) {
					t.Fatalf("size %d, mode %v: an answer shares memory with another one, or with the edges", n, m)
				}
				overwrite(e.Above, 9)
				overwrite(e.Left, 9)
				if !slices.Equal(b, want) {
					t.Fatalf("size %d, mode %v: an answer changes with the edges", n, m)
				}
				is(t, n, m, keep, want...)
			}
		}
	}
}

// Nothing is kept: the same call answers the same, whatever was asked between, refused among it (R2).
func TestNothingIsKept(t *testing.T) {
	d := draws(10)
	for _, n := range sizes() {
		for _, m := range all() {
			e := d.edges(n)
			want := must(t, n, m, e)
			overwrite(must(t, n, m, d.edges(n)), 3)
			must(t, 4, turned{api.ModeV, 3}, four())
			refused(t, n, 13, 0, e, api.ErrMode)
			refused(t, n+1, m.mode, m.delta, e, api.ErrArg)
			is(t, n, m, e, want...)
		}
	}
}
