package subpel_test

import (
	"math"
	"testing"

	"zoetrope/api"
)

// usual is a block that there is.
func usual() block { return block{5, 6, 4, 4, 0} }

// Planes that may not be, whatever else is asked (P14.2).
func TestWrongPlanes(t *testing.T) {
	for _, p := range wrong() {
		for _, kind := range kinds() {
			refused(t, p, block{0, 0, 4, 4, kind})
			refused(t, p, block{-37, 99, 64, 64, kind})
			refused(t, p, block{far20, -far20, 4, 64, kind})
		}
	}
}

// Sides of planes at both ends (P14.2).
func TestSidesOfPlanes(t *testing.T) {
	for _, w := range []int{-1, 0, 1, 2, 511, 512, 513} {
		for _, h := range []int{-1, 0, 1, 2, 511, 512, 513} {
			p := api.Plane{W: w, H: h, Pix: make([]uint8, max(0, w*h))}
			if 1 <= w && w <= 512 && 1 <= h && h <= 512 {
				fetchedIs(t, p, usual(), make([]uint8, 16)...)
			} else {
				refused(t, p, usual())
			}
		}
	}
}

// As many samples as a plane has, and none more or less; spare room counts for nothing (P14.2).
func TestSamplesOfPlanes(t *testing.T) {
	room := make([]uint8, 100)
	for n := range 100 {
		for _, p := range []api.Plane{{W: 6, H: 7, Pix: room[:n]}, {W: 6, H: 7, Pix: room[:n:n]}} {
			if n == 42 {
				fetched(t, p, usual())
			} else {
				refused(t, p, usual())
			}
		}
	}
	refused(t, api.Plane{W: 6, H: 7}, usual())
}

// Places at both ends, just beyond them, and as far out as numbers go, on either place and on both (P14.2).
func TestPlaces(t *testing.T) {
	p := four()
	for _, n := range []int{-far20, -far20 + 1, -1, 0, 1, far20 - 1, far20} {
		fetched(t, p, block{n, 0, 4, 4, 0})
		fetched(t, p, block{0, n, 4, 4, 0})
		fetched(t, p, block{n, n, 64, 64, 2})
		fetched(t, p, block{n, -n, 64, 4, 1})
	}
	for _, n := range noPlaces() {
		for _, o := range []int{0, 5, -far20, far20, n} {
			for _, kind := range kinds() {
				refused(t, p, block{n, o, 4, 4, kind})
				refused(t, p, block{o, n, 64, 64, kind})
			}
		}
	}
}

// Sizes at both ends, just beyond them, and as far out as numbers go, on either place and on both (P14.2).
func TestWrongSizes(t *testing.T) {
	p := four()
	for w := -3; w < 75; w++ {
		for h := -3; h < 75; h++ {
			if 4 <= w && w <= 64 && 4 <= h && h <= 64 {
				fetched(t, p, block{0, 0, w, h, 0})
			} else {
				refused(t, p, block{0, 0, w, h, 0})
			}
		}
	}
	for _, n := range noSides() {
		for _, o := range []int{4, 16, 64, n} {
			for _, kind := range kinds() {
				refused(t, p, block{5, 6, n, o, kind})
				refused(t, p, block{5, 6, o, n, kind})
			}
		}
	}
}

// Kinds that are none (P14.2).
func TestWrongKinds(t *testing.T) {
	for _, kind := range noKinds() {
		for _, p := range []api.Plane{four(), samples(1, 1, 7)} {
			refused(t, p, block{0, 0, 4, 4, kind})
			refused(t, p, block{5, 6, 64, 64, kind})
			refused(t, p, block{far20, -far20, 4, 4, kind})
		}
	}
	for kind := -300; kind < 300; kind++ {
		if kind < 0 || kind > 2 {
			refused(t, four(), block{3, 0, 4, 4, kind})
		} else {
			fetched(t, four(), block{3, 0, 4, 4, kind})
		}
	}
}

// Where several things are wrong, one error is told, and nothing beside it: all that are looked for are ErrArg (P14.2).
func TestSeveralWrong(t *testing.T) {
	right := 0
	places := []int{0, far20, far20 + 1, -far20 - 1, math.MaxInt, math.MinInt}
	sides := []int{4, 64, 3, 65, 0, -4, math.MaxInt, math.MinInt}
	for i, p := range []api.Plane{four(), {}, {W: 4, H: 1, Pix: make([]uint8, 3)}, {W: math.MaxInt, H: math.MinInt}} {
		for _, x := range places {
			for _, y := range places {
				for _, w := range sides {
					for _, h := range sides {
						for _, kind := range []int{0, 2, 3, -1, math.MaxInt, math.MinInt} {
							b := block{x, y, w, h, kind}
							if i == 0 && b.may() {
								fetched(t, p, b)
								right++
							} else {
								refused(t, p, b)
							}
						}
					}
				}
			}
		}
	}
	if right != 32 {
		t.Errorf("%d calls are right, want 32", right)
	}
}
