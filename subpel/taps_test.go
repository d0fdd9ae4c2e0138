package subpel_test

import (
	"testing"

	"zoetrope/api"
	"zoetrope/subpel"
)

// tapsAre asks for just these.
func tapsAre(t *testing.T, kind, at int, want [8]int) {
	t.Helper()
	if l, e := subpel.Taps(kind, at); l != want || e != api.OK {
		t.Fatalf("Taps(%d, %d): %v, %d, want %v", kind, at, l, e, want)
	}
}

func noTaps(t *testing.T, kind, at int) {
	t.Helper()
	if l, e := subpel.Taps(kind, at); l != [8]int{} || e != api.ErrArg {
		t.Fatalf("Taps(%d, %d): %v, %d", kind, at, l, e)
	}
}

// The chapter's rows of taps (P14.1).
func TestExamplesOfTaps(t *testing.T) {
	tapsAre(t, 0, 8, [8]int{0, 2, -14, 76, 76, -14, 2, 0})
	tapsAre(t, 0, 15, [8]int{0, 0, -2, 8, 126, -6, 2, 0})
	tapsAre(t, 2, 3, [8]int{0, 0, 0, 104, 24, 0, 0, 0})
	noTaps(t, 3, 0)
	noTaps(t, 0, 16)
}

// All taps of all kinds at all places (P14.1).
func TestTaps(t *testing.T) {
	for _, kind := range kinds() {
		for at := range 16 {
			tapsAre(t, kind, at, known(kind, at))
		}
	}
}

// From 9 to 15 they are those from 7 to 1, the last one first, and so they are of bilinear by its own rule (P14.1).
func TestTapsTurnedRound(t *testing.T) {
	for _, kind := range kinds() {
		for at := 1; at < 16; at++ {
			l, _ := subpel.Taps(kind, at)
			o, _ := subpel.Taps(kind, 16-at)
			for k := range l {
				if l[k] != o[7-k] {
					t.Fatalf("kind %d: %v at %d, %v at %d", kind, l, at, o, 16-at)
				}
			}
		}
	}
	for at := range 16 {
		tapsAre(t, api.FilterBilinear, at, [8]int{3: 128 - 8*at, 4: 8 * at})
	}
}

// At a sample there is nothing but that sample, whatever the kind (P14.1).
func TestTapsAtASample(t *testing.T) {
	for _, kind := range kinds() {
		tapsAre(t, kind, 0, [8]int{3: 128})
	}
}

// Kinds and places that are none, and both together (P14.1).
func TestTapsWrong(t *testing.T) {
	for _, kind := range noKinds() {
		for at := range 16 {
			noTaps(t, kind, at)
		}
		for _, at := range noParts() {
			noTaps(t, kind, at)
		}
	}
	for _, at := range noParts() {
		for _, kind := range kinds() {
			noTaps(t, kind, at)
		}
	}
	for kind := -300; kind < 300; kind++ {
		for at := -40; at < 40; at++ {
			if kind < 0 || kind > 2 || at < 0 || at > 15 {
				noTaps(t, kind, at)
			} else {
				tapsAre(t, kind, at, known(kind, at))
			}
		}
	}
}

// Whoever changes what was answered changes no later answer (P14.1, R2).
func TestTapsAreNew(t *testing.T) {
	for range 2 {
		for _, kind := range kinds() {
			for at := range 16 {
				l, _ := subpel.Taps(kind, at)
				for k := range l {
					l[k] = 77
				}
				tapsAre(t, kind, at, known(kind, at))
			}
		}
	}
}

// All taps at a place are together 128 (P14.3).
func TestTapsTogether(t *testing.T) {
	for _, kind := range kinds() {
		for at := range 16 {
			l, _ := subpel.Taps(kind, at)
			sum := 0
			for _, tap := range l {
				sum += tap
			}
			if sum != 128 {
				t.Errorf("kind %d at %d: together %d", kind, at, sum)
			}
		}
	}
}

// No taps make more of samples than between -2^13 and 2^13: not even of the worst ones, white where a tap is above 0 and black elsewhere, and the other way round (P14.6).
func TestTapsBounded(t *testing.T) {
	least, greatest := 0, 0
	for _, kind := range kinds() {
		for at := range 16 {
			l, _ := subpel.Taps(kind, at)
			above, below := 0, 0
			for _, tap := range l {
				above, below = above+max(0, tap)*255, below+min(0, tap)*255
			}
			if kind == api.FilterBilinear && (below != 0 || above != 128*255) {
				t.Errorf("bilinear at %d: from %d to %d", at, below, above)
			}
			least, greatest = min(least, rounded(below, 8)), max(greatest, rounded(above, 8))
		}
	}
	if least < -1<<13 || greatest > 1<<13 {
		t.Errorf("from %d to %d", least, greatest)
	}
	// regular in the middle: (-28 255 + 4) over 8, (156 255 + 4) over 8
	if least != -892 || greatest != 4973 {
		t.Errorf("from %d to %d, want from -892 to 4973", least, greatest)
	}
}
