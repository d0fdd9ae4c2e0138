package part_test

import (
	"math"
	"slices"
	"testing"

	"zoetrope/api"
)

// places counts how often rectangles cover each place of a canvas, place by place; a rectangle that reaches beyond it fails.
func places(t *testing.T, canvas api.Rect, l []api.Rect) []int {
	t.Helper()
	n := make([]int, canvas.W*canvas.H)
	for _, r := range l {
		if r.W < 1 || r.H < 1 || !in(canvas, r.X, r.Y) || !in(canvas, r.X+r.W-1, r.Y+r.H-1) {
			t.Fatalf("%v is not within %v", r, canvas)
		}
		for y := r.Y - canvas.Y; y < r.Y-canvas.Y+r.H; y++ {
			for x := r.X - canvas.X; x < r.X-canvas.X+r.W; x++ {
				n[y*canvas.W+x]++
			}
		}
	}
	return n
}

// A region's parts cover each of its places once, and lie within it; no side of them is below 8 (P16.4).
func TestPartsCover(t *testing.T) {
	for _, size := range sizes() {
		for kind := range many(size) {
			for _, r := range []api.Rect{region(0, 0, size), region(lastOfRegion, lastOfRegion, size), region(24, 1000, size), region(lastOfRegion, 8, size)} {
				l := cut(t, r, kind)
				for at, n := range places(t, r, l) {
					if n != 1 {
						t.Fatalf("Cuts(%v, %d): the place %d is covered %d times", r, kind, at, n)
					}
				}
				for _, p := range l {
					if p.W < 8 || p.H < 8 || p.W%8 != 0 || p.H%8 != 0 {
						t.Fatalf("Cuts(%v, %d): %v", r, kind, p)
					}
				}
			}
		}
	}
}

// covers asks of a tree's leaves that they cover what is in the square and in the area, and that alone.
func covers(t *testing.T, r, area api.Rect, choices []int) {
	t.Helper()
	l, _ := blocks(t, r, area, choices)
	for at, n := range places(t, r, l) {
		want := 0
		if in(area, r.X+at%r.W, r.Y+at/r.W) {
			want = 1
		}
		if n != want {
			t.Fatalf("Blocks(%v, %v, %v): the place %d is covered %d times, want %d", r, area, choices, at, n, want)
		}
	}
	for _, p := range l {
		if p.W < 8 || p.H < 8 || p.W%8 != 0 || p.H%8 != 0 {
			t.Fatalf("Blocks(%v, %v, %v): %v", r, area, choices, p)
		}
	}
}

// The leaves of a tree cover each place that is in the region and in the area once, and no other; all their sides are multiples of 8 (P16.5).
func TestLeavesCover(t *testing.T) {
	d := draws(165)
	for range 3000 {
		r := region(8*d.below(129), 8*d.below(129), 64)
		covers(t, r, d.area(r), d.choices(d.one(0, 1, 3, 10, 21, 22, 60)))
	}
	r := rect(128, 512, 64, 64)
	for c := range 10 {
		covers(t, r, r, []int{c})
		covers(t, r, r, []int{3, c, c, c, c})
		covers(t, r, r, append([]int{3}, slices.Repeat([]int{3, c, c, c, c}, 4)...))
	}
	// over each edge and each corner
	for _, x := range []int{-56, -40, -8, 0, 8, 40, 56} {
		for _, y := range []int{-56, -40, -8, 0, 8, 40, 56} {
			a := rect(r.X+x, r.Y+y, 64, 64)
			covers(t, r, a, nil)
			covers(t, r, a, all())
			covers(t, r, a, d.choices(20))
		}
	}
	covers(t, r, rect(152, 520, 16, 24), all())
}

// Choices behind those that were used change nothing; nor does it, that there are none (P16.6).
func TestFurtherChoices(t *testing.T) {
	d := draws(166)
	for i := range 5000 {
		r := region(8*d.below(129), 8*d.below(129), 64)
		a := d.area(r)
		if i%2 == 0 {
			a = r
		}
		// as many as any tree has use for
		choices := d.choices(21)
		l, used := blocks(t, r, a, choices)
		blocksAre(t, r, a, choices[:used], used, l...)
		for range 3 {
			other := append(slices.Clone(choices[:used]), d.choices(d.below(50))...)
			blocksAre(t, r, a, other, used, l...)
		}
		for _, c := range []int{-1, 3, math.MaxInt, math.MinInt} {
			blocksAre(t, r, a, append(slices.Clone(choices[:used]), c), used, l...)
		}
	}
}

// A choice that is turned by how many partitions its region has changes nothing; of all sizes that holds by 40 (P16.6).
func TestTurnedChoices(t *testing.T) {
	d := draws(167)
	for i := range 3000 {
		r := region(8*d.below(129), 8*d.below(129), 64)
		a := d.area(r)
		if i%2 == 0 {
			a = r
		}
		choices := make([]int, 21)
		for at := range choices {
			choices[at] = d.one(3, 3, d.below(10), d.below(2000)-1000)
		}
		l, used := blocks(t, r, a, choices)
		of := model(r, a, choices).of
		for at := range used {
			for _, by := range []int{of[at], -of[at], 7 * of[at], 40, -40, 4000000, -4000000} {
				turned := slices.Clone(choices)
				turned[at] += by
				blocksAre(t, r, a, turned, used, l...)
			}
		}
		all := slices.Clone(choices)
		for at := range all {
			all[at] += 40 * (d.below(201) - 100)
		}
		blocksAre(t, r, a, all, used, l...)
	}
	// as far as numbers go
	whole := rect(0, 0, 64, 64)
	for c := range 10 {
		for _, far := range []int{math.MaxInt/40*40 - 40, math.MinInt/40*40 + 40} {
			for _, before := range [][]int{nil, {3}, {3, 3}} {
				near := append(slices.Clone(before), c)
				l, used := blocks(t, whole, whole, near)
				near[len(near)-1] += far
				blocksAre(t, whole, whole, near, used, l...)
			}
		}
	}
}
