package scan_test

import (
	"slices"
	"testing"

	"zoetrope/api"
	"zoetrope/scan"
)

// orderIs asks Order for just this.
func orderIs(t *testing.T, size int, want []int) {
	t.Helper()
	if got, e := scan.Order(size); !slices.Equal(got, want) || e != api.OK {
		t.Errorf("Order(%d): %v, %d, want %v", size, got, e, want)
	}
}

// The chapter's example, and an order of a greater block by hand (P10.1).
func TestOrdersByHand(t *testing.T) {
	orderIs(t, 4, []int{0, 1, 4, 2, 5, 8, 3, 6, 9, 12, 7, 10, 13, 11, 14, 15})
	orderIs(t, 8, []int{
		0, 1, 8, 2, 9, 16, 3, 10, 17, 24, 4, 11, 18, 25, 32, 5, 12, 19, 26, 33, 40, 6, 13, 20, 27, 34, 41, 48, 7, 14, 21, 28, 35, 42, 49, 56,
		15, 22, 29, 36, 43, 50, 57, 23, 30, 37, 44, 51, 58, 31, 38, 45, 52, 59, 39, 46, 53, 60, 47, 54, 61, 55, 62, 63,
	})
}

// Every size: its places sorted by row and column together, and by row where that is alike (P10.1).
func TestEveryOrder(t *testing.T) {
	for _, size := range sizes() {
		side := sideOf(size)
		want := make([]int, places(size))
		for i := range want {
			want[i] = i
		}
		slices.SortFunc(want, func(a, b int) int {
			if x := (a/side + a%side) - (b/side + b%side); x != 0 {
				return x
			}
			return a/side - b/side
		})
		orderIs(t, size, want)
	}
}

// 64 has the side 32, so its places are those of 32, and no more (P10.1).
func TestOrderOf64(t *testing.T) {
	l := ordered(t, 64)
	if len(l) != 1024 {
		t.Fatalf("%d places", len(l))
	}
	if l[1] != 1 || l[2] != 32 || l[1023] != 1023 {
		t.Errorf("%d and %d at the beginning, %d at the end", l[1], l[2], l[1023])
	}
	orderIs(t, 32, l)
}

// Numbers that are no sizes: below 0, 0, just beside each size, and far away (P10.1).
func TestWrongSizesOfOrders(t *testing.T) {
	for _, size := range noSizes() {
		if l, e := scan.Order(size); len(l) != 0 || e != api.ErrArg {
			t.Errorf("Order(%d): %d places, %d", size, len(l), e)
		}
	}
}

// The order has each place once (P10.5).
func TestEachPlaceOnce(t *testing.T) {
	for _, size := range sizes() {
		l := ordered(t, size)
		seen := make([]int, places(size))
		for _, at := range l {
			if at < 0 || at >= len(seen) {
				t.Fatalf("Order(%d) has %d", size, at)
			}
			seen[at]++
		}
		for at, n := range seen {
			if n != 1 {
				t.Errorf("Order(%d) has %d %d times", size, at, n)
			}
		}
	}
}

// The neighbours of a place stand behind it in the order (P10.5).
func TestNeighboursStandBehind(t *testing.T) {
	for _, size := range sizes() {
		side := sideOf(size)
		stands := make([]int, places(size))
		for i, at := range ordered(t, size) {
			stands[at] = i
		}
		for r := range side {
			for c := range side {
				for _, n := range calls()[0].near {
					y, x := r+n[0], c+n[1]
					if y < side && x < side && stands[y*side+x] <= stands[r*side+c] {
						t.Errorf("Order(%d): %d does not stand behind %d", size, y*side+x, r*side+c)
					}
				}
			}
		}
	}
}

// Whoever reads from the end to the beginning knows what the contexts hang on: they are the same, whatever stands ahead in the order, and at the place itself (P10.5).
func TestContextsOfWhatIsKnown(t *testing.T) {
	d := draws(5)
	for _, size := range sizes() {
		whole := d.levels(places(size), 4)
		known := alike(places(size), 99)
		order := ordered(t, size)
		for _, at := range slices.Backward(order) {
			for _, c := range calls() {
				want, _ := c.do(whole, size, at)
				c.answers(t, known, size, at, want)
			}
			known[at] = whole[at]
		}
	}
}
