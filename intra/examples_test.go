package intra_test

import (
	"testing"

	"zoetrope/api"
	"zoetrope/intra"
)

// four are the edges of the chapter's examples.
func four() api.Edges {
	return edges([]uint8{10, 20, 30, 40}, []uint8{50, 60, 70, 80}, 5)
}

// rowsOf4 is a block of 4 by 4 whose rows are alike.
func rowsOf4(row ...uint8) []uint8 {
	var l []uint8
	for range 4 {
		l = append(l, row...)
	}
	return l
}

// columnsOf4 is a block of 4 by 4 whose columns are alike.
func columnsOf4(column ...uint8) []uint8 {
	var l []uint8
	for _, v := range column {
		l = append(l, alike(4, v)...)
	}
	return l
}

// The chapter's rows of predictions (P12.2).
func TestExamples(t *testing.T) {
	for _, x := range []struct {
		m    turned
		want []uint8
	}{
		{turned{api.ModeDc, 0}, alike(16, 45)},
		{turned{api.ModeV, 0}, rowsOf4(10, 20, 30, 40)},
		{turned{api.ModeH, 0}, columnsOf4(50, 60, 70, 80)},
		{turned{api.ModeD45, 0}, []uint8{20, 30, 40, 40, 30, 40, 40, 40, 40, 40, 40, 40, 40, 40, 40, 40}},
		{turned{api.ModeD135, 0}, []uint8{5, 10, 20, 30, 50, 5, 10, 20, 60, 50, 5, 10, 70, 60, 50, 5}},
		{turned{api.ModeD113, 1}, []uint8{7, 15, 25, 36, 5, 10, 20, 30, 47, 7, 15, 25, 60, 5, 11, 21}},
		{turned{api.ModeD203, 3}, []uint8{58, 63, 69, 76, 66, 73, 79, 81, 77, 81, 80, 80, 81, 80, 80, 80}},
		{turned{api.ModeV, 3}, []uint8{9, 18, 28, 39, 8, 17, 27, 37, 7, 15, 25, 36, 6, 13, 23, 34}},
		{turned{api.ModeSmooth, 0}, []uint8{30, 34, 37, 41, 45, 46, 46, 47, 60, 58, 56, 54, 76, 71, 65, 60}},
		{turned{api.ModeSmoothH, 0}, []uint8{50, 47, 44, 41, 60, 54, 48, 42, 70, 61, 52, 44, 80, 68, 57, 45}},
		{turned{api.ModePaeth, 0}, columnsOf4(50, 60, 70, 80)},
	} {
		is(t, 4, x.m, four(), x.want...)
	}
}

// The chapter's row of errors (P12.2).
func TestExamplesOfErrors(t *testing.T) {
	refused(t, 4, api.ModePaeth, 1, four(), api.ErrMode)
	refused(t, 4, 13, 0, four(), api.ErrMode)
	refused(t, 5, 99, 9, four(), api.ErrArg)
	refused(t, 8, api.ModeDc, 0, four(), api.ErrArg)
}

// The chapter's row of predictions without edges (P12.2).
func TestExamplesWithoutEdges(t *testing.T) {
	is(t, 4, turned{api.ModeDc, 0}, api.Edges{}, alike(16, 128)...)
	is(t, 4, turned{api.ModeV, 0}, api.Edges{}, alike(16, 127)...)
	is(t, 4, turned{api.ModeH, 0}, api.Edges{}, alike(16, 129)...)
}

// The chapter's row of angles (P12.1).
func TestExamplesOfAngles(t *testing.T) {
	angleIs(t, api.ModeD203, 3, 212, true)
	angleIs(t, api.ModeV, -3, 81, true)
	angleIs(t, api.ModeDc, 0, 0, false)
	angleIs(t, api.ModeV, 4, 0, false)
}

func angleIs(t *testing.T, mode, delta, want int, direction bool) {
	t.Helper()
	if a, ok := intra.Angle(mode, delta); a != want || ok != direction {
		t.Fatalf("Angle(%d, %d): %d, %v, want %d, %v", mode, delta, a, ok, want, direction)
	}
}

// Every angle that a mode and a delta give, written out (P12.1).
func TestAngles(t *testing.T) {
	for mode, angles := range map[int][7]int{
		api.ModeV:    {81, 84, 87, 90, 93, 96, 99},
		api.ModeH:    {171, 174, 177, 180, 183, 186, 189},
		api.ModeD45:  {36, 39, 42, 45, 48, 51, 54},
		api.ModeD135: {126, 129, 132, 135, 138, 141, 144},
		api.ModeD113: {104, 107, 110, 113, 116, 119, 122},
		api.ModeD157: {148, 151, 154, 157, 160, 163, 166},
		api.ModeD203: {194, 197, 200, 203, 206, 209, 212},
		api.ModeD67:  {58, 61, 64, 67, 70, 73, 76},
	} {
		for i, want := range angles {
			angleIs(t, mode, i-3, want, true)
		}
		for _, delta := range noDeltas() {
			angleIs(t, mode, delta, 0, false)
		}
	}
}

// Modes that are no directions, and such as there are not, have no angle (P12.1).
func TestNoAngles(t *testing.T) {
	for _, mode := range append([]int{0, 9, 10, 11, 12}, noModes()...) {
		for delta := -3; delta <= 3; delta++ {
			angleIs(t, mode, delta, 0, false)
		}
		for _, delta := range noDeltas() {
			angleIs(t, mode, delta, 0, false)
		}
	}
}
