package part_test

import (
	"slices"
	"testing"

	"zoetrope/api"
	"zoetrope/part"
)

// spoil changes a list of rectangles, its spare room too.
func spoil(l []api.Rect) {
	l = l[:cap(l)]
	for i := range l {
		l[i] = rect(-1, -2, -3, -4)
	}
}

// Parts are new memory each time, whatever becomes of those answered before (P16.3).
func TestMemoryOfCuts(t *testing.T) {
	for _, size := range sizes() {
		for kind := range many(size) {
			r := region(40, 1024, size)
			first, second := cut(t, r, kind), cut(t, r, kind)
			spoil(first)
			if !slices.Equal(second, drawn(r, kind)) {
				t.Fatalf("Cuts(%v, %d): two answers share memory", r, kind)
			}
			cutIs(t, r, kind, drawn(r, kind)...)
			spoil(second)
		}
	}
}

// Choices are only read, their spare room neither read nor written; leaves are new memory, and what was chosen once is not kept (P16.3).
func TestMemoryOfBlocks(t *testing.T) {
	d := draws(163)
	for i := range 2000 {
		r := region(8*d.below(129), 8*d.below(129), 64)
		a := d.area(r)
		if i%3 == 0 {
			a = r
		}
		room := d.choices(d.below(24) + 40)
		before := slices.Clone(room)
		choices := room[:len(room)-40]
		want := model(r, a, choices)
		first, _ := blocks(t, r, a, choices)
		second, _ := blocks(t, r, a, choices)
		if !slices.Equal(room, before) {
			t.Fatalf("Blocks(%v, %v, %v): choices are changed", r, a, choices)
		}
		spoil(first)
		if !slices.Equal(room, before) || !slices.Equal(second, want.leaves) {
			t.Fatalf("Blocks(%v, %v, %v): answers share memory", r, a, choices)
		}
		for i := range room {
			room[i] ^= -1
		}
		if !slices.Equal(second, want.leaves) {
			t.Fatalf("Blocks(%v, %v, %v): an answer changes with the choices", r, a, choices)
		}
		blocksAre(t, r, a, slices.Clip(before[:len(choices)]), want.used, want.leaves...)
	}
}

// With an error choices stay as they are, too (P16.3).
func TestMemoryOfErrors(t *testing.T) {
	choices := []int{3, -1, 13, 1 << 20, 3}
	before := slices.Clone(choices)
	noBlocks(t, rect(0, 0, 32, 32), usual(), choices[:2])
	noBlocks(t, square(), api.Rect{}, choices[:2])
	if !slices.Equal(choices, before) {
		t.Fatal("choices are changed")
	}
}

// What is answered hangs on the arguments alone: calls of all kinds between two of one kind change nothing (R2, P16.3).
func TestNothingIsKept(t *testing.T) {
	d := draws(164)
	for range 2000 {
		r := region(8*d.below(129), 8*d.below(129), 64)
		a, choices := d.area(r), d.choices(d.below(24))
		l, used := blocks(t, r, a, choices)
		part.Types(d.below(65))
		part.Cuts(region(8, 8, d.one(sizes()...)), d.below(10))
		part.Blocks(rect(0, 0, 64, 64), d.area(rect(0, 0, 64, 64)), d.choices(30))
		part.Blocks(rect(0, 0, 64, 60), a, choices)
		blocksAre(t, r, a, choices, used, l...)
	}
}
