package scan_test

import (
	"slices"
	"testing"

	"zoetrope/api"
	"zoetrope/scan"
)

// asked is what stands in lists that are handed in: levels that may be, and such as are too few or too many.
func asked() [][]int {
	d := draws(8)
	l := [][]int{nil, {}, {7}}
	for _, n := range []int{15, 16, 17, 64, 256, 1023, 1024, 1025, 4096} {
		l = append(l, d.levels(n, 4), d.levels(n, 20))
	}
	return l
}

// Levels are only read, their spare room neither read nor written, whether they are refused or not (P10.4).
func TestLevelsOnlyRead(t *testing.T) {
	for _, keep := range asked() {
		for _, size := range append(sizes(), 5, 0) {
			for _, at := range []int{0, 1, 11, 14, len(keep) - 2, len(keep) - 1, len(keep), -1} {
				for _, c := range calls() {
					room := append(slices.Clone(keep), 15, -15, 15, 15)
					before := slices.Clone(room)
					x, e := c.do(room[:len(keep)], size, at)
					y, f := c.do(slices.Clip(slices.Clone(keep)), size, at)
					if !slices.Equal(room, before) {
						t.Errorf("%s of %d levels, size %d, at %d: the list has changed", c.name, len(keep), size, at)
					}
					if x != y || e != f {
						t.Errorf("%s of %d levels, size %d, at %d: %d, %d, without spare room %d, %d", c.name, len(keep), size, at, x, e, y, f)
					}
				}
			}
		}
	}
}

// spoil fills a list with what no order has, its spare room too.
func spoil(l []int) {
	l = l[:cap(l)]
	for i := range l {
		l[i] = -7
	}
}

// Each order that is answered is new memory: it does not change with another one, nor does a later one (P10.4, R2).
func TestOrdersAreNew(t *testing.T) {
	for _, size := range sizes() {
		for _, other := range sizes() {
			a, b := ordered(t, size), ordered(t, other)
			keep, rest := slices.Clone(a), slices.Clone(b)
			spoil(a)
			if !slices.Equal(b, rest) {
				t.Fatalf("Order(%d) shares memory with Order(%d)", other, size)
			}
			spoil(b)
			orderIs(t, size, keep)
			orderIs(t, other, rest)
		}
	}
}

// Levels are not kept: whoever changes them between two calls is told of what they are then (P10.4).
func TestLevelsAreNotKept(t *testing.T) {
	l := make([]int, 16)
	for _, v := range []int{0, 1, 3, -9, 0, 5} {
		l[1] = v
		for _, c := range calls() {
			c.check(t, l, 4, 0)
		}
	}
}

// Nothing is kept: the same call answers the same again, whatever was asked between, refused among it (R2).
func TestNothingIsKept(t *testing.T) {
	l := block(map[int]int{1: 5, 4: -2, 5: 1})
	for range 3 {
		orderIs(t, 4, []int{0, 1, 4, 2, 5, 8, 3, 6, 9, 12, 7, 10, 13, 11, 14, 15})
		classIs(t, 1024, 10, 9, 511)
		calls()[0].answers(t, l, 4, 0, 3)
		if order, e := scan.Order(5); len(order) != 0 || e != api.ErrArg {
			t.Errorf("Order(5): %v, %d", order, e)
		}
		calls()[1].answers(t, l, 4, 0, 4)
		if _, _, _, e := scan.Class(1025); e != api.ErrArg {
			t.Errorf("Class(1025): %d", e)
		}
		calls()[1].refused(t, l, 4, 16)
		classIs(t, 1, 0, 0, 0)
		calls()[0].refused(t, l, 8, 0)
		calls()[0].answers(t, l, 4, 1, 1)
		orderIs(t, 64, ordered(t, 32))
	}
}
