package part_test

import (
	"testing"

	"zoetrope/api"
)

// Regions that begin where none may, on either place and on both, of every size and partition (P16.1).
func TestWrongPlacesOfCuts(t *testing.T) {
	for _, x := range noPlaces(lastOfRegion) {
		for _, size := range sizes() {
			for kind := range many(size) {
				for _, o := range []int{0, 8, lastOfRegion, x} {
					noCut(t, region(x, o, size), kind)
					noCut(t, region(o, x, size), kind)
				}
			}
		}
	}
	for at := -100; at <= lastOfRegion+100; at++ {
		for _, r := range []api.Rect{region(at, 8, 8), region(8, at, 64)} {
			if 0 <= at && at <= lastOfRegion && at%8 == 0 {
				cut(t, r, api.PartNone)
			} else {
				noCut(t, r, api.PartNone)
			}
		}
	}
}

// Rectangles that are no squares, and squares that are no regions (P16.1).
func TestWrongSidesOfCuts(t *testing.T) {
	for w := -10; w <= 80; w++ {
		for h := -10; h <= 80; h++ {
			if r := rect(8, 16, w, h); w == h && many(w) > 0 {
				cut(t, r, api.PartNone)
			} else {
				noCut(t, r, api.PartNone)
				noCut(t, r, api.PartHorz)
			}
		}
	}
	for _, w := range noSizes() {
		for _, kind := range []int{-1, api.PartNone, api.PartSplit, api.PartVert4, 10} {
			noCut(t, rect(0, 0, w, w), kind)
			for _, o := range sizes() {
				noCut(t, rect(0, 0, w, o), kind)
				noCut(t, rect(0, 0, o, w), kind)
			}
		}
	}
	noCut(t, api.Rect{}, api.PartNone)
}

// Partitions that a region of a size does not have (P16.1).
func TestWrongKinds(t *testing.T) {
	for _, size := range sizes() {
		for _, kind := range noKinds(size) {
			noCut(t, region(0, 0, size), kind)
			noCut(t, region(lastOfRegion, 64, size), kind)
		}
		for kind := -300; kind <= 300; kind++ {
			if r := region(8, 24, size); 0 <= kind && kind < many(size) {
				cut(t, r, kind)
			} else {
				noCut(t, r, kind)
			}
		}
	}
}

// A region that is none and a partition that there is not, both (P16.1).
func TestWrongCutsTwice(t *testing.T) {
	for _, r := range []api.Rect{{}, rect(-8, 0, 16, 16), rect(0, 4, 16, 16), rect(0, 0, 16, 8), rect(0, 0, 64, 32), rect(0, 0, 128, 128), rect(2056, 0, 8, 8)} {
		for _, kind := range noKinds(64) {
			noCut(t, r, kind)
		}
	}
}

// square, usual and some are what a tree may be asked of.
func square() api.Rect { return rect(64, 64, 64, 64) }

func usual() api.Rect { return rect(0, 0, 104, 88) }

func some() []int { return []int{3, 1, 2} }

// Squares that begin where none may, though regions may up to 2048 (P16.2).
func TestWrongPlacesOfBlocks(t *testing.T) {
	for _, x := range noPlaces(lastOfSquare) {
		for _, o := range []int{0, 64, lastOfSquare, x} {
			for _, a := range []api.Rect{usual(), rect(1024, 1024, 1024, 1024), rect(0, 0, 1024, 1024)} {
				noBlocks(t, region(x, o, 64), a, some())
				noBlocks(t, region(o, x, 64), a, nil)
			}
		}
	}
	for at := -100; at <= lastOfRegion+100; at++ {
		for _, r := range []api.Rect{region(at, 8, 64), region(8, at, 64)} {
			if 0 <= at && at <= lastOfSquare && at%8 == 0 {
				asModel(t, r, usual(), some())
			} else {
				noBlocks(t, r, usual(), some())
			}
		}
	}
}

// Regions that are none of 64, and rectangles that are no regions (P16.2).
func TestWrongSidesOfBlocks(t *testing.T) {
	for w := -10; w <= 140; w++ {
		for h := -10; h <= 140; h++ {
			if r := rect(0, 64, w, h); w == 64 && h == 64 {
				asModel(t, r, usual(), some())
			} else {
				noBlocks(t, r, usual(), some())
			}
		}
	}
	for _, w := range append(noSizes(), 8, 16, 32) {
		noBlocks(t, rect(0, 0, w, w), usual(), some())
		noBlocks(t, rect(0, 0, w, 64), usual(), nil)
		noBlocks(t, rect(0, 0, 64, w), usual(), nil)
	}
	noBlocks(t, api.Rect{}, usual(), nil)
}

// Areas that begin where none may, on either place and on both (P16.2).
func TestWrongPlacesOfAreas(t *testing.T) {
	for _, x := range noPlaces(lastOfArea) {
		for _, o := range []int{0, 64, lastOfArea, x} {
			for _, r := range []api.Rect{square(), rect(1024, 1024, 64, 64), rect(0, 0, 64, 64)} {
				noBlocks(t, r, rect(x, o, 64, 64), some())
				noBlocks(t, r, rect(o, x, 8, 1024), nil)
			}
		}
	}
	for at := -100; at <= lastOfRegion+100; at++ {
		for _, a := range []api.Rect{rect(at, 8, 64, 72), rect(8, at, 72, 64)} {
			if 0 <= at && at <= lastOfArea && at%8 == 0 {
				asModel(t, square(), a, some())
			} else {
				noBlocks(t, square(), a, some())
			}
		}
	}
}

// Areas of sizes that none may have, on either side and on both (P16.2).
func TestWrongSidesOfAreas(t *testing.T) {
	for _, w := range noLengths() {
		for _, o := range []int{8, 64, mostOfArea, w} {
			for _, at := range []int{0, 64, lastOfArea} {
				noBlocks(t, square(), rect(at, 0, w, o), some())
				noBlocks(t, square(), rect(0, at, o, w), nil)
			}
		}
	}
	for n := -100; n <= mostOfArea+100; n++ {
		for _, a := range []api.Rect{rect(0, 8, n, 72), rect(8, 0, 72, n)} {
			if 8 <= n && n <= mostOfArea && n%8 == 0 {
				asModel(t, square(), a, some())
			} else {
				noBlocks(t, square(), a, some())
			}
		}
	}
	noBlocks(t, square(), api.Rect{}, some())
}

// A square and an area that are both none: the left one counts, and the error is the same (P16.2).
func TestWrongBlocksTwice(t *testing.T) {
	wrong := []api.Rect{{}, rect(-8, 0, 64, 64), rect(0, -64, 64, 64), rect(4, 0, 64, 64), rect(0, 2048, 64, 64), rect(0, 0, -64, 64), rect(0, 0, 64, 60)}
	for _, r := range wrong {
		for _, a := range wrong {
			noBlocks(t, r, a, nil)
			noBlocks(t, r, a, some())
		}
	}
}
