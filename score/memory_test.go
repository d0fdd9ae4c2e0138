package score_test

import (
	"math"
	"slices"
	"testing"

	"zoetrope/api"
	"zoetrope/score"
)

// words are the bits of a list, which none is held against none by.
func words(l []float64) []uint64 {
	var b []uint64
	for _, x := range l {
		b = append(b, math.Float64bits(x))
	}
	return b
}

// roomy is a list with spare room behind its elements, and that room as a whole.
func roomy[T any](l []T, spare ...T) (list, room []T) {
	room = append(slices.Clone(l), spare...)
	return room[:len(l)], room
}

// Numbers that are handed in are only read, their spare room neither read nor written.
func TestNumbersOnlyRead(t *testing.T) {
	d := draws(72)
	l := append(lists(few(), 3), nil, []float64{}, nones(), wholes(&d, 1000, 1<<40), []float64{3, 2, 1, 2, 3})
	for _, keep := range l {
		list, room := roomy(keep, -infinite(), math.NaN(), -5)
		before := words(room)
		i, e := score.Best(list...)
		x := score.Mean(list...)
		if !slices.Equal(words(room), before) {
			t.Errorf("%v has become %v", keep, room)
		}
		j, f := score.Best(slices.Clip(slices.Clone(keep))...)
		if i != j || e != f {
			t.Errorf("Best(%v): %d, %d, without spare room %d, %d", keep, i, e, j, f)
		}
		is(t, x, score.Mean(slices.Clip(slices.Clone(keep))...), "Mean(%v)", keep)
	}
}

// So are planes, those that may not be, too.
func TestPlanesOnlyRead(t *testing.T) {
	d := draws(73)
	l := wrong()
	for _, s := range shapes() {
		l = append(l, d.plane(s[0], s[1]))
	}
	for _, keep := range l {
		a, b := twin(keep), twin(keep)
		var rooms [2][]uint8
		a.Pix, rooms[0] = roomy(keep.Pix, 1, 2, 3)
		b.Pix, rooms[1] = roomy(keep.Pix, 4, 5, 6)
		before := [2][]uint8{slices.Clone(rooms[0]), slices.Clone(rooms[1])}
		score.Ratio(a, b)
		score.Ratio(b, a)
		score.Ratio(a, a)
		score.Ratio(a, row(1, 2))
		if !slices.Equal(rooms[0], before[0]) || !slices.Equal(rooms[1], before[1]) {
			t.Errorf("%d by %d: what was handed in has changed", keep.W, keep.H)
		}
	}
}

// Nothing is kept: the same call answers the same again, whatever was asked between, and whatever has become of what was handed in (R2).
func TestNothingIsKept(t *testing.T) {
	d := draws(74)
	a, b := d.plane(9, 7), d.plane(9, 7)
	l := []float64{4, 2, math.NaN(), 2, 9}
	ask := func() (x [4]float64, i int, e api.Errno, c string) {
		i, e = score.Best(l...)
		return [4]float64{score.Ratio(a, b), score.Cost(7, 9, 0.3), score.Mean(l[:2]...), score.Mean(l...)}, i, e, score.Class(l[0])
	}
	x, i, e, c := ask()
	keep := slices.Clone(l)
	samples := slices.Clone(a.Pix)
	for j := range l {
		l[j] = -float64(j)
	}
	copy(a.Pix, b.Pix)
	if y, j, f, g := ask(); !math.IsInf(y[0], 1) || y[2] != -0.5 || y[3] != -2 || j != 4 || f != api.OK || g != "-0" {
		t.Errorf("of other numbers: %v, %d, %d, %s", y, j, f, g)
	}
	copy(l, keep)
	copy(a.Pix, samples)
	y, j, f, g := ask()
	for k := range x {
		is(t, y[k], x[k], "answer %d the next time", k)
	}
	if i != j || e != f || c != g {
		t.Errorf("%d, %d, %s, and the next time %d, %d, %s", i, e, c, j, f, g)
	}
}
