package units_test

import (
	"slices"
	"testing"

	"zoetrope/api"
	"zoetrope/units"
)

// The chapter's row (P19.2).
func TestJoinOfExamples(t *testing.T) {
	b, e := units.Join(unit(), seq(make([]byte, 200)...))
	if e != api.OK || len(b) != 205 || !slices.Equal(b[:5], []byte{0x20, 0, 0x10, 0xc8, 1}) {
		t.Fatalf("%x, %d", b, e)
	}
	noJoin(t, api.ErrArg, api.Obu{Type: 0})
	noJoin(t, api.ErrArg, api.Obu{Type: 4})
}

// None, one of each type, and many (P19.2).
func TestJoinByHand(t *testing.T) {
	joinIs(t, nil)
	joinIs(t, []byte{48, 0}, api.Obu{Type: 3, Body: []byte{}})
	for _, x := range rows() {
		joinIs(t, x.b, x.l...)
	}
}

// Bodies of as many bytes as are at the edges of how that is said, of each type, alone and between others (P19.2).
func TestJoinOfBodies(t *testing.T) {
	for _, x := range rowsOfSizes(195) {
		joinIs(t, x.b, x.l...)
	}
}

// Any pieces (P19.2).
func TestJoinOfAnyPieces(t *testing.T) {
	d := draws(196)
	for range 3000 {
		l := d.pieces(d.below(12))
		joinIs(t, stream(l...), l...)
	}
}

// Types that are none, at each place, with a body and without one (P19.2).
func TestJoinOfNoTypes(t *testing.T) {
	for _, kind := range noTypes() {
		for _, body := range [][]byte{nil, {}, {1}, make([]byte, 200)} {
			o := api.Obu{Type: kind, Body: body}
			noJoin(t, api.ErrArg, o)
			noJoin(t, api.ErrArg, o, o)
			noJoin(t, api.ErrArg, o, unit(), frame(1))
			noJoin(t, api.ErrArg, unit(), o, frame(1))
			noJoin(t, api.ErrArg, unit(), frame(1), o)
		}
	}
}

// Bodies of as many bytes as they may have, one fewer, one more, and many more (P19.2).
func TestJoinOfGreatBodies(t *testing.T) {
	body := make([]byte, most)
	body[0], body[most-2], body[most-1] = 1, 2, 3
	joinIs(t, append([]byte{48, 128, 128, 128, 8}, body...), frame(body...))
	joinIs(t, append([]byte{16, 255, 255, 255, 7}, body[:most-1]...), seq(body[:most-1]...))
	joinIs(t, slices.Concat([]byte{32, 0, 32, 128, 128, 128, 8}, body, []byte{48, 1, 6}), unit(), unit(body...), frame(6))
	great := make([]byte, 3*most)
	for _, n := range []int{most + 1, most + 2, most + 127, most + 128, 2*most - 1, 2 * most, 2*most + 1, 3 * most} {
		for _, kind := range types() {
			o := api.Obu{Type: kind, Body: great[:n]}
			noJoin(t, api.ErrLimit, o)
			noJoin(t, api.ErrLimit, o, unit())
			noJoin(t, api.ErrLimit, frame(1), o)
			noJoin(t, api.ErrLimit, unit(), frame(), o, seq())
		}
	}
}

// Of pieces that are wrong the first one counts, and of what is wrong with one its type (P19.2).
func TestOrderOfPieces(t *testing.T) {
	great := make([]byte, most+1)
	for _, kind := range []int{0, 4, -1, 1 << 30} {
		wrong, long, both := api.Obu{Type: kind}, frame(great...), api.Obu{Type: kind, Body: great}
		noJoin(t, api.ErrArg, wrong, long)
		noJoin(t, api.ErrLimit, long, wrong)
		noJoin(t, api.ErrArg, both)
		noJoin(t, api.ErrArg, both, long)
		noJoin(t, api.ErrLimit, long, both)
		noJoin(t, api.ErrArg, unit(), wrong, seq(), long, frame())
		noJoin(t, api.ErrLimit, unit(), long, seq(), wrong, frame())
	}
}
