package modes_test

import (
	"fmt"
	"slices"
	"testing"

	"zoetrope/api"
	"zoetrope/grid"
	"zoetrope/syms"
)

// about is a grid that knows a block to the left of 16 16, moved by v into frame 1, and nothing beside it.
func about(t *testing.T, v api.Vec) *grid.Grid {
	t.Helper()
	return gridOf(t, square(), inter(8, 16, 8, 8, 1, v))
}

// parted are the acts of a block at 16 16 moved into frame 1 with a grid of about, its difference's acts being l.
func parted(l ...act) []act {
	before := []act{symbol(api.SymSkip, 0, 1), symbol(api.SymInter, 1, 1), symbol(api.SymComp, 0, 0), symbol(api.SymRef, 0, 1), symbol(api.SymMvMode, 1, 3)}
	return slices.Concat(before, l, []act{symbol(api.SymFilter, 0, 0), symbol(api.SymObmc, 0, 0)})
}

// Differences of one part, and what each is coded by, by hand: a class, its further bits, and the lowest three (P18.2).
func TestDifferencesByHand(t *testing.T) {
	for n, x := range map[int][3]int{
		1: {0, 0, 0}, 2: {0, 0, 1}, 7: {0, 0, 6}, 8: {0, 0, 7},
		9: {1, 0, 0}, 16: {1, 0, 7}, 17: {1, 1, 0}, 24: {1, 1, 7},
		25: {2, 0, 0}, 32: {2, 0, 7}, 33: {2, 1, 0}, 56: {2, 3, 7},
		57: {3, 0, 0}, 120: {3, 7, 7}, 121: {4, 0, 0}, 248: {4, 15, 7}, 249: {5, 0, 0}, 504: {5, 31, 7}, 505: {6, 0, 0}, 1016: {6, 63, 7}, 1017: {7, 0, 0}, 2040: {7, 127, 7},
		2041: {8, 0, 0}, 4088: {8, 255, 7}, 4089: {9, 0, 0}, 4095: {9, 0, 6}, 8184: {9, 511, 7}, 8185: {10, 0, 0}, 8189: {10, 0, 4}, 8190: {10, 0, 5},
	} {
		for context := range 2 {
			for below, from := range []int{-4095, 4095} {
				part := func(context int) []act {
					l := []act{raw(1, below), symbol(api.SymMvClass, context, x[0])}
					if x[0] > 0 {
						l = append(l, raw(x[0], x[1]))
					}
					return append(l, symbol(api.SymMvFrac, context, x[2]))
				}
				v, to := vec(from, 0), from+n-2*below*n
				u := vec(to, 0)
				if context == 1 {
					v, u = vec(0, from), vec(0, to)
				}
				g := about(t, v)
				byHand(t, g, skipped(inter(16, 16, 8, 8, 1, u)), plain, parted(append([]act{symbol(api.SymMvJoint, 0, 1+context)}, part(context)...)...)...)
				g = about(t, vec(from, from))
				both := slices.Concat([]act{symbol(api.SymMvJoint, 0, 3)}, part(0), part(1))
				byHand(t, g, skipped(inter(16, 16, 8, 8, 1, vec(to, to))), plain, parted(both...)...)
			}
		}
	}
	for _, v := range []api.Vec{vec(0, 0), vec(4095, -4095), vec(-3, 8)} {
		byHand(t, about(t, v), skipped(inter(16, 16, 8, 8, 1, v)), plain, parted(symbol(api.SymMvJoint, 0, 0))...)
	}
}

// Every difference that there is, either way, of each part (P18.2).
func TestEveryDifference(t *testing.T) {
	for _, from := range []int{-4095, 4095, 0} {
		g := gridOf(t, square(), inter(8, 16, 8, 8, 1, vec(from, 7)), inter(8, 32, 8, 8, 0, vec(-9, from)), inter(8, 48, 8, 8, 2, vec(from, -from)))
		var l []api.Block
		for to := -4095; to <= 4095; to++ {
			l = append(l, skipped(inter(16, 16, 8, 8, 1, vec(to, 7))), skipped(inter(16, 32, 8, 8, 0, vec(-9, to))), skipped(inter(16, 48, 8, 8, 2, vec(to, (to*31)%4096))))
		}
		row(t, syms.Default(), true, g, plain, l...)
	}
}

// Each way to a vector, with none, one and two candidates, of one frame and of two, of each pair of frames; what agrees is coded, and nothing else is (P18.2).
func TestEveryWay(t *testing.T) {
	for many := range 3 {
		for other := range 3 {
			for ref := range 3 {
				for second := range 3 {
					g := gridOf(t, square())
					// the candidates of two frames, one of which may have as many as the other one or not
					first := []api.Vec{vec(5, -6), vec(70, 80)}[:many]
					further := []api.Vec{vec(-300, 200), vec(1, 4095)}[:other]
					if second == ref {
						further = first
					}
					for i, v := range first {
						if ref != second {
							known(t, g, inter(8+8*i, 16-8*i, 8, 8, ref, v))
						} else {
							known(t, g, comp(8+8*i, 16-8*i, 8, 8, (ref+1)%3, vec(99, 99), ref, v))
						}
					}
					if ref != second {
						for i, v := range further {
							known(t, g, inter(24-16*i, 8, 8, 8, second, v))
						}
					}
					candidate := func(l []api.Vec, i int) api.Vec {
						if i < len(l) {
							return l[i]
						}
						return vec(0, 0)
					}
					var l []api.Block
					for mode, at := range []int{0, 1, 2} {
						a, b := candidate(first, at), candidate(further, at)
						x := skipped(inter(16, 16, 8, 8, ref, a))
						y := skipped(comp(16, 16, 8, 8, ref, a, second, b))
						x.MvMode, y.MvMode = mode, mode
						l = append(l, x, y)
						disagree(t, g, x)
						disagree(t, g, y)
					}
					for range 4 {
						l = append(l, skipped(inter(16, 16, 8, 8, ref, vec(len(l), -3))), skipped(comp(16, 16, 8, 8, ref, vec(4, 5), second, vec(-len(l), 3))))
					}
					for _, b := range l {
						mode := symbol(api.SymMvMode, many, b.MvMode)
						if !slices.Contains(plan(t, g, b, plain), mode) {
							t.Fatalf("%+v with %d candidates: %v", b, many, plan(t, g, b, plain))
						}
					}
					row(t, syms.Default(), true, g, plain, l...)
				}
			}
		}
	}
}

// disagree asks whether a block is refused with any other vector.
func disagree(t *testing.T, g *grid.Grid, b api.Block) {
	t.Helper()
	w := writer(t, syms.Default(), true)
	codes(t, w, g, b, plain)
	was := writer(t, syms.Default(), true)
	codes(t, was, g, b, plain)
	for _, by := range []int{1, -1, 8, -300, 4095} {
		for _, x := range interOnly[3:7] {
			other := b
			*x.of(&other) += by
			refused(t, w, g, other, plain, api.ErrArg)
		}
	}
	alike(t, fmt.Sprintf("%+v that does not agree", b), w, was)
}

// With MvNearest, MvNear and MvZero no other vectors agree than those, whatever they are; with MvNew any do (P18.2).
func TestAgrees(t *testing.T) {
	g := neighbours(t)
	w := writer(t, syms.Default(), true)
	says := map[int]map[int]api.Vec{ // by the frame and the way, of a block of 8 at 16 16
		0: {api.MvNearest: vec(0, 0), api.MvNear: vec(0, 0), api.MvZero: vec(0, 0)},
		1: {api.MvNearest: vec(3, -4), api.MvNear: vec(-4095, 4095), api.MvZero: vec(0, 0)},
		2: {api.MvNearest: vec(100, -100), api.MvNear: vec(-1, 7), api.MvZero: vec(0, 0)},
	}
	vecs := []api.Vec{vec(0, 0), vec(3, -4), vec(-4, 3), vec(3, 0), vec(0, -4), vec(-4095, 4095), vec(100, -100), vec(-1, 7), vec(7, -1), vec(9, 9), vec(-11, 3), vec(-1, 0), vec(0, 7)}
	for ref := range 3 {
		for mode := range 4 {
			for _, v := range vecs {
				b := inter(16, 16, 8, 8, ref, v)
				b.MvMode = mode
				if mode == api.MvNew || says[ref][mode] == v {
					codes(t, w, g, b, plain)
				} else {
					refused(t, w, g, b, plain, api.ErrArg)
				}
				for second := range 3 {
					for _, u := range vecs {
						b := comp(16, 16, 8, 8, ref, v, second, u)
						b.MvMode = mode
						if mode == api.MvNew || says[ref][mode] == v && says[second][mode] == u {
							codes(t, w, g, b, plain)
						} else {
							refused(t, w, g, b, plain, api.ErrArg)
						}
					}
				}
			}
		}
	}
	// an intra block agrees whatever its neighbours are
	codes(t, w, g, intra(16, 16, 8, 8), plain)
	codes(t, w, about(t, vec(1, 1)), intra(16, 16, 16, 16), plain)
}

// The candidates are those of the block's own width and place (P18.2).
func TestCandidatesOfShape(t *testing.T) {
	d := draws(91)
	for range 60 {
		tile := d.tile()
		g := d.filled(t, tile, 60)
		w := writer(t, syms.Default(), true)
		for range 30 {
			b := d.shape(tile)
			for ref := range 3 {
				near, _ := candidates(t, g, b, ref)
				for i, v := range near {
					m := inter(b.X, b.Y, b.W, b.H, ref, v)
					m.MvMode = i
					codes(t, w, g, m, plain)
					m.Mv[0].X ^= 1
					refused(t, w, g, m, plain, api.ErrArg)
				}
			}
		}
	}
}
