package motion_test

import (
	"slices"
	"testing"

	"zoetrope/api"
	"zoetrope/motion"
)

// weights are those that there must be.
func weights(t *testing.T, n int) []int {
	t.Helper()
	l, e := motion.Weights(n)
	if e != api.OK || len(l) != n {
		t.Fatalf("Weights(%d): %v, %d", n, l, e)
	}
	return l
}

func weightsAre(t *testing.T, n int, want ...int) {
	t.Helper()
	if l := weights(t, n); !slices.Equal(l, want) {
		t.Fatalf("Weights(%d): %v, want %v", n, l, want)
	}
}

func noWeights(t *testing.T, n int) {
	t.Helper()
	if l, e := motion.Weights(n); e != api.ErrArg || len(l) != 0 {
		t.Fatalf("Weights(%d): %v, %d", n, l, e)
	}
}

// The chapter's rows of weights (P15.2).
func TestExamplesOfWeights(t *testing.T) {
	weightsAre(t, 4, 36, 44, 52, 60)
	if l := weights(t, 8); l[0] != 34 || l[7] != 62 {
		t.Errorf("Weights(8): from %d to %d", l[0], l[7])
	}
	noWeights(t, 3)
	noWeights(t, 33)
}

// Weights worked out by hand (P15.2).
func TestWeightsByHand(t *testing.T) {
	// 32, 96, 160, 224, 288 over 10
	weightsAre(t, 5, 35, 41, 48, 54, 60)
	// 32, 96, 160, 224, 288, 352 over 12
	weightsAre(t, 6, 34, 40, 45, 50, 56, 61)
	// 32, 96, 160, 224, 288, 352, 416 over 14
	weightsAre(t, 7, 34, 38, 43, 48, 52, 57, 61)
	// 4 a step, from 2 on
	weightsAre(t, 8, 34, 38, 42, 46, 50, 54, 58, 62)
	// 2 a step, from 1 on
	weightsAre(t, 16, 33, 35, 37, 39, 41, 43, 45, 47, 49, 51, 53, 55, 57, 59, 61, 63)
	// 1 a step, from a half on
	var all []int
	for k := 32; k < 64; k++ {
		all = append(all, k)
	}
	weightsAre(t, 32, all...)
	// 32 over 62 is 0, 61 32 over 62 is 31.48
	if l := weights(t, 31); l[0] != 32 || l[30] != 63 || l[15] != 48 {
		t.Errorf("Weights(31): %v", l)
	}
}

// Weights of every n from 4 to 32, and of all about them (P15.2).
func TestWeights(t *testing.T) {
	for n := -600; n <= 600; n++ {
		if n < 4 || n > 32 {
			noWeights(t, n)
			continue
		}
		var want []int
		for i := range n {
			want = append(want, weight(n, i))
		}
		weightsAre(t, n, want...)
	}
}

// Numbers of weights that are none, as far out as numbers go (P15.2).
func TestWrongWeights(t *testing.T) {
	for _, n := range noDepths() {
		noWeights(t, n)
	}
}

// Weights rise, or stay, and are from 32 to 63: what is nearest to the edge has most of the neighbour (P15.7).
func TestWeightsRise(t *testing.T) {
	for n := 4; n <= 32; n++ {
		last := 32
		for i, k := range weights(t, n) {
			if k < last || k > 63 {
				t.Errorf("Weights(%d): %d behind %d at %d", n, k, last, i)
			}
			last = k
		}
	}
	// so, of samples that are all alike, the further from the edge the nearer to own
	for _, k := range ways() {
		for n := 4; n <= 32; n++ {
			for _, c := range [][2]uint8{{0, 255}, {255, 0}, {100, 101}, {200, 20}} {
				b := blend{own: alike(64*64, c[0]), w: 64}
				*k.depth(&b.r), *k.along(&b.r) = n, 2
				b.other = alike(2*n, c[1])
				l := blended(t, k, b)
				away, last := func(i int) int { return max(int(l[i]), int(c[0])) - min(int(l[i]), int(c[0])) }, 255
				for i := range n {
					at := i
					if k.name == "Above" {
						at = 64 * i
					}
					if away(at) > last {
						t.Fatalf("%s of %v, %d deep: %d away from own at %d, %d ahead of it", k.name, c, n, away(at), i, last)
					}
					last = away(at)
				}
			}
		}
	}
}
