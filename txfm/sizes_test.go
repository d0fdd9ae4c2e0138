package txfm_test

import (
	"slices"
	"testing"

	"zoetrope/api"
	"zoetrope/txfm"
)

// Each size has its kinds, rising, and its side (P8.1).
func TestSizes(t *testing.T) {
	for _, size := range sizes() {
		if l := txfm.Types(size); !slices.Equal(l, had()[size]) {
			t.Errorf("Types(%d): %v", size, l)
		}
		if side, e := txfm.Side(size); side != kept(size) || e != api.OK {
			t.Errorf("Side(%d): %d, %d", size, side, e)
		}
	}
}

// Other numbers have none, and no side (P8.1).
func TestNoSizes(t *testing.T) {
	l := noSizes()
	for n := range 300 {
		if !slices.Contains(sizes(), n) {
			l = append(l, n, -n)
		}
	}
	for _, n := range l {
		if l := txfm.Types(n); len(l) != 0 {
			t.Errorf("Types(%d): %v", n, l)
		}
		if side, e := txfm.Side(n); side != 0 || e != api.ErrArg {
			t.Errorf("Side(%d): %d, %d", n, side, e)
		}
	}
}
