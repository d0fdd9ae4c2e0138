package units_test

import (
	"slices"
	"testing"

	"zoetrope/api"
)

// The chapter's rows (P19.3).
func TestUnitsOfExamples(t *testing.T) {
	s, f, g := seq(1, 2), frame(3), frame(4, 5)
	unitsAre(t, []api.Obu{unit(), f, unit(), unit(), s, g}, []api.Obu{f}, nil, []api.Obu{s, g})
	unitsAre(t, nil)
	unitsAre(t, []api.Obu{})
	noUnits(t, f)
	noUnits(t, unit(1))
}

// Units with no piece, one and many; pieces that are alike (P19.3).
func TestUnitsByHand(t *testing.T) {
	unitsAre(t, []api.Obu{unit()}, nil)
	unitsAre(t, []api.Obu{{Type: 2, Body: []byte{}}}, nil)
	unitsAre(t, []api.Obu{unit(), unit(), unit()}, nil, nil, nil)
	unitsAre(t, []api.Obu{unit(), seq()}, []api.Obu{seq()})
	unitsAre(t, []api.Obu{unit(), frame()}, []api.Obu{frame()})
	unitsAre(t, []api.Obu{unit(), frame(1), frame(1), frame(1)}, []api.Obu{frame(1), frame(1), frame(1)})
	unitsAre(t, []api.Obu{unit(), unit(), frame(2), seq(1), unit()}, nil, []api.Obu{frame(2), seq(1)}, nil)
	unitsAre(t, []api.Obu{unit(), frame(32, 0), unit(), seq(32)}, []api.Obu{frame(32, 0)}, []api.Obu{seq(32)})
	var l, one []api.Obu
	var want [][]api.Obu
	for i := range 1000 {
		one = append(one, frame(byte(i), byte(i/256)))
		if i%50 == 0 {
			l = append(append(l, unit()), one...)
			want = append(want, slices.Clone(one))
		}
	}
	unitsAre(t, l, want...)
}

// Pieces that begin with each type (P19.3).
func TestFirstPiece(t *testing.T) {
	for _, behind := range [][]api.Obu{nil, {unit()}, {unit(), frame(1)}, {frame(1), unit()}, {seq(), frame()}} {
		noUnits(t, append([]api.Obu{seq()}, behind...)...)
		noUnits(t, append([]api.Obu{frame()}, behind...)...)
		noUnits(t, append([]api.Obu{seq(1, 2)}, behind...)...)
		noUnits(t, append([]api.Obu{frame(1, 2)}, behind...)...)
		grouping(t, append([]api.Obu{unit()}, behind...))
	}
}

// spoiled are wrong pieces: types that are none, and an ObuUnit with a body, of one byte and of more.
func spoiled() []api.Obu {
	l := []api.Obu{unit(0), unit(1), unit(32, 0), unit(make([]byte, 200)...)}
	for _, kind := range noTypes() {
		l = append(l, api.Obu{Type: kind}, api.Obu{Type: kind, Body: []byte{1}})
	}
	return l
}

// A wrong piece at each place, behind whatever, and two of them (P19.3).
func TestWrongPieces(t *testing.T) {
	d := draws(197)
	for _, wrong := range spoiled() {
		noUnits(t, wrong)
		l := d.grouped(1 + d.below(3))
		for i := range len(l) + 1 {
			noUnits(t, slices.Insert(slices.Clone(l), i, wrong)...)
		}
		for i := range l {
			noUnits(t, append(append(slices.Clone(l[:i]), wrong), l[i+1:]...)...)
		}
		for _, other := range spoiled()[:8] {
			noUnits(t, unit(), wrong, frame(), other)
			noUnits(t, unit(), other, wrong)
		}
		noUnits(t, frame(), wrong)
	}
}

// modelUnits are the temporal units of pieces that may be: it is asked from the end on where the last one begins.
func modelUnits(l []api.Obu) [][]api.Obu {
	var all [][]api.Obu
	for len(l) > 0 {
		last := len(l) - 1
		for l[last].Type != 2 {
			last--
		}
		all = append(all, l[last+1:])
		l = l[:last]
	}
	slices.Reverse(all)
	return all
}

// Any pieces that may be (P19.3).
func TestUnitsOfAnyPieces(t *testing.T) {
	d := draws(198)
	for range 3000 {
		l := d.grouped(d.below(8))
		unitsAre(t, l, modelUnits(l)...)
	}
}

// All rows of up to six pieces, of each type and of what is wrong (P19.3).
func TestUnitsOfAllRows(t *testing.T) {
	letters := []api.Obu{unit(), seq(7), frame(), unit(1), {Type: 4}}
	turns := 1
	for n := range 7 {
		for i := range turns {
			l := make([]api.Obu, n)
			right := true
			for at := range l {
				l[at] = letters[i%5]
				right = right && i%5 < 3
				i /= 5
			}
			if right && (n == 0 || l[0].Type == 2) {
				unitsAre(t, l, modelUnits(l)...)
			} else {
				noUnits(t, l...)
			}
		}
		turns *= 5
	}
}

// How long a body is makes no difference to what unit its piece is of: more bytes than can be joined are no fault here (P19.3).
func TestUnitsOfGreatBodies(t *testing.T) {
	f, s := frame(make([]byte, most)...), seq(make([]byte, most+1)...)
	unitsAre(t, []api.Obu{unit(), f, unit(), s}, []api.Obu{f}, []api.Obu{s})
	noUnits(t, unit(), f, unit(s.Body...))
}
