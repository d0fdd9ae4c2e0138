package coefs_test

import (
	"slices"
	"testing"

	"zoetrope/api"
	"zoetrope/coefs"
	"zoetrope/syms"
)

// roomy is a list that has spare room, filled with what no block has.
func roomy(l []int) []int {
	room := append(slices.Clone(l), 7, -7, 1<<30, 7)
	return room[:len(l)]
}

// spoil changes a list and its spare room.
func spoil(l []int) {
	l = l[:cap(l)]
	for i := range l {
		l[i] = -77
	}
}

// Levels that are handed in are only read, their spare room neither read nor written, whether they are refused or not, by a writer and by a reader (P11.3).
func TestLevelsOnlyRead(t *testing.T) {
	d := draws(8)
	for _, b := range d.blocks(60) {
		for _, pair := range started(t) {
			for _, size := range []int{b.size, 5, 4, 64} {
				for _, plane := range []int{0, 2, 3} {
					given := roomy(b.levels)
					before := slices.Clone(given[:cap(given)])
					x, e := coefs.Code(pair[0], size, plane, 1, given)
					y, f := coefs.Code(pair[1], size, plane, 1, slices.Clip(slices.Clone(b.levels)))
					if !slices.Equal(given[:cap(given)], before) {
						t.Fatalf("%d levels, size %d: the list has changed", len(b.levels), size)
					}
					if !slices.Equal(x, y) || e != f {
						t.Fatalf("%d levels, size %d: with spare room otherwise than without", len(b.levels), size)
					}
				}
			}
			alike(t, "spare room", pair[0], pair[1])
		}
	}
	l := roomy([]int{-5, 1})
	before := slices.Clone(l[:cap(l)])
	coefs.Sign(l)
	coefs.Sign(l[:0])
	if !slices.Equal(l[:cap(l)], before) {
		t.Error("Sign has changed a list")
	}
}

// What is answered is new memory: it neither changes what was handed in, nor what was answered before, nor the coder (P11.3).
func TestAnswersAreNew(t *testing.T) {
	d := draws(18)
	l := append(d.blocks(20), with(4, 0, 0, nil), with(4, 0, 0, nil), with(64, 0, 0, nil), with(32, 1, 0, map[int]int{0: 1}))
	w, quiet := writer(t, syms.Default(), true), writer(t, syms.Default(), true)
	var answers [][]int
	for _, b := range l {
		given := roomy(b.levels)
		got, e := coefs.Code(w, b.size, b.plane, b.sign, given)
		codes(t, quiet, b)
		if !slices.Equal(got, b.levels) || e != api.OK {
			t.Fatalf("%v, %d", got, e)
		}
		answers = append(answers, slices.Clone(got))
		spoil(got)
		if !slices.Equal(given, b.levels) || given[:len(given)+1][len(given)] != 7 {
			t.Fatal("an answer shares memory with what was handed in")
		}
		spoil(given) // what was handed in is not kept
	}
	alike(t, "answers and levels that are changed later", w, quiet)
	r := reader(t, written(t, w), syms.Default(), true)
	var kept [][]int
	for i, b := range l {
		given := roomy(b.levels)
		got, e := coefs.Code(r, b.size, b.plane, b.sign, given)
		if !slices.Equal(got, answers[i]) || e != api.OK {
			t.Fatalf("read: %v, %d", got, e)
		}
		spoil(given)
		if !slices.Equal(got, answers[i]) {
			t.Fatal("what was read shares memory with what was handed in")
		}
		kept = append(kept, got)
	}
	for i, got := range kept {
		if !slices.Equal(got, answers[i]) {
			t.Fatalf("answer %d has changed with later ones", i)
		}
		spoil(got)
	}
}
