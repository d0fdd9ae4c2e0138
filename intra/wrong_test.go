package intra_test

import (
	"slices"
	"testing"

	"zoetrope/api"
)

// unfit are edges that may not be for a size, each for a reason of its own.
func unfit(n int) []api.Edges {
	l := []api.Edges{
		{HasAbove: true}, // there, and without samples
		{HasLeft: true},
		{HasAbove: true, HasLeft: true},
		{HasAbove: true, Above: []uint8{}},
		{HasLeft: true, Left: []uint8{}},
		{HasAbove: true, Above: alike(n, 1), HasLeft: true}, // one of both
		{HasLeft: true, Left: alike(n, 1), HasAbove: true},
		{Above: alike(n, 1)}, // not there, and with samples
		{Left: alike(n, 1)},
		{Above: alike(n, 1), Left: alike(n, 1)},
		{HasAbove: true, Above: alike(n, 1), Left: alike(n, 1)},
		{HasLeft: true, Left: alike(n, 1), Above: alike(n, 1)},
		{HasAbove: true, Left: alike(n, 1)}, // the one for the other
		{HasLeft: true, Above: alike(n, 1)},
		{HasAbove: true, Above: alike(n+1, 1)[:n-1]}, // spare room counts for nothing
		{HasLeft: true, Left: alike(n+1, 1)[:n-1]},
	}
	for _, many := range []int{1, 2, 3, 4, 5, 8, 16, 32, 64, 128, n - 1, n + 1, n / 2, 2 * n, n * n} {
		if many == n {
			continue
		}
		some := alike(many, 1)
		l = append(l,
			api.Edges{HasAbove: true, Above: some},
			api.Edges{HasLeft: true, Left: some},
			edges(some, some, 1),
			edges(some, alike(n, 1), 1),
			edges(alike(n, 1), some, 1),
			api.Edges{Above: some},
			api.Edges{Left: some},
			api.Edges{HasAbove: true, Above: alike(n, 1), Left: some},
			api.Edges{HasLeft: true, Left: alike(n, 1), Above: some},
		)
	}
	return l
}

// fit are edges that may be for a size.
func fit(n int) []api.Edges {
	e := edges(alike(n, 1), alike(n, 2), 3)
	room := edges(alike(n+9, 1)[:n], alike(n+9, 2)[:n], 3)
	l := append(columns(e), columns(room)...)
	return append(l,
		api.Edges{Corner: 9, Above: []uint8{}, Left: []uint8{}},
		api.Edges{Above: alike(9, 1)[:0], Left: alike(n, 1)[:0]},
		api.Edges{HasAbove: true, Above: alike(n, 1), Left: []uint8{}},
		api.Edges{HasLeft: true, Left: alike(n, 1), Above: alike(4, 2)[:0]},
	)
}

// Edges that may be, of every size, and such as may not (P12.1, P12.2).
func TestEdgesThatMayBe(t *testing.T) {
	for _, n := range sizes() {
		for _, e := range fit(n) {
			checks(t, n, e, api.OK)
			for _, m := range all() {
				must(t, n, m, e)
			}
		}
		for _, e := range unfit(n) {
			checks(t, n, e, api.ErrArg)
			for _, m := range all() {
				refused(t, n, m.mode, m.delta, e, api.ErrArg)
			}
		}
	}
}

// Numbers that are no size, with edges of as many samples, and with others (P12.1, P12.2).
func TestNoSizes(t *testing.T) {
	for _, n := range noSizes() {
		l := []api.Edges{{}, four(), edges(alike(8, 1), alike(8, 1), 1), edges(alike(64, 1), alike(64, 1), 1), {HasAbove: true}, {HasAbove: true, HasLeft: true}}
		if n >= 0 && n <= 1<<16 {
			l = append(l, columns(edges(alike(n, 1), alike(n, 1), 1))...)
		}
		for _, e := range l {
			checks(t, n, e, api.ErrArg)
			for _, m := range []turned{{0, 0}, {1, 0}, {1, 3}, {2, 0}, {3, 0}, {4, -2}, {7, 1}, {9, 0}, {12, 0}} {
				refused(t, n, m.mode, m.delta, e, api.ErrArg)
			}
		}
	}
}

// Every size is one for which edges that are not there may be (P12.1).
func TestSizes(t *testing.T) {
	for n := -2; n < 300; n++ {
		want := api.ErrArg
		if slices.Contains(sizes(), n) {
			want = api.OK
		}
		checks(t, n, api.Edges{}, want)
		checks(t, n, edges(alike(max(n, 0), 7), alike(max(n, 0), 7), 7), want)
	}
}

// Numbers that are no mode, with any delta (P12.2).
func TestNoModes(t *testing.T) {
	for _, n := range sizes() {
		for _, mode := range noModes() {
			for _, e := range []api.Edges{{}, edges(alike(n, 1), alike(n, 1), 1)} {
				for _, delta := range []int{0, 1, -1, 3, -3, 4, -4} {
					refused(t, n, mode, delta, e, api.ErrMode)
				}
			}
		}
	}
}

// Deltas that a direction may have, and those beyond them; other modes have none but 0 (P12.2).
func TestDeltas(t *testing.T) {
	for _, n := range sizes() {
		e := edges(alike(n, 1), alike(n, 1), 1)
		for mode := range 13 {
			for delta := -3; delta <= 3; delta++ {
				if delta == 0 || mode >= 1 && mode <= 8 {
					must(t, n, turned{mode, delta}, e)
				} else {
					refused(t, n, mode, delta, e, api.ErrMode)
				}
			}
			for _, delta := range noDeltas() {
				refused(t, n, mode, delta, e, api.ErrMode)
			}
		}
	}
}

// The modes at both ends are modes (P12.2).
func TestModes(t *testing.T) {
	for mode := -3; mode < 20; mode++ {
		if mode >= api.ModeDc && mode <= api.ModePaeth {
			must(t, 4, turned{mode, 0}, four())
		} else {
			refused(t, 4, mode, 0, four(), api.ErrMode)
		}
	}
	refused(t, 4, api.ModeCfl, 0, four(), api.ErrMode) // of colour alone: chapter 13 has it
}

// Where several things are wrong, the first from the left is told: the size, the mode, the delta, the edges (P12.2).
func TestOrderOfErrors(t *testing.T) {
	for _, n := range []int{0, 3, 5, -4, 128} {
		for _, mode := range []int{-1, 13, 99, 1, 0} {
			for _, delta := range []int{0, 4, -9} {
				refused(t, n, mode, delta, four(), api.ErrArg)
				refused(t, n, mode, delta, api.Edges{Above: []uint8{1}}, api.ErrArg)
			}
		}
	}
	for _, n := range sizes() {
		for _, e := range unfit(n) {
			for _, m := range []turned{{-1, 0}, {13, 0}, {99, 9}, {0, 1}, {12, -1}, {9, 3}, {1, 4}, {8, -4}, {5, 99}} {
				refused(t, n, m.mode, m.delta, e, api.ErrMode)
			}
		}
	}
}
