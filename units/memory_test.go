package units_test

import (
	"bytes"
	"slices"
	"testing"

	"zoetrope/api"
	"zoetrope/units"
)

// roomy is a copy of a list with room behind it, which is filled with something that may not change.
func roomy[T any](l []T, with T) []T {
	all := make([]T, 0, len(l)+40)
	all = append(all, l...)
	for i := range all[len(l):cap(all)] {
		all[:cap(all)][len(l)+i] = with
	}
	return all
}

// room is what stands behind a list.
func room[T any](l []T) []T { return l[len(l):cap(l)] }

// roomyPieces are copies of pieces with room behind the list and behind each body.
func roomyPieces(l []api.Obu) []api.Obu {
	out := roomy(l, api.Obu{Type: 77, Body: []byte{77}})
	for i, o := range out {
		out[i].Body = roomy(o.Body, 77)
	}
	return out
}

// untouched asks of pieces and of the room behind them that they are as they were.
func untouched(t *testing.T, given, before []api.Obu) {
	t.Helper()
	if !alike(given, before) {
		t.Fatalf("what was handed in has changed: %v; it was %v", given, before)
	}
	for _, o := range room(given) {
		if o.Type != 77 || !bytes.Equal(o.Body, []byte{77}) {
			t.Fatalf("the room behind the pieces has changed: %v", o)
		}
	}
	for _, o := range given {
		for _, c := range room(o.Body) {
			if c != 77 {
				t.Fatalf("the room behind a body has changed: %v", room(o.Body))
			}
		}
	}
}

// spoil writes over pieces, over all of their bodies, and behind these.
func spoil(l []api.Obu) {
	for i, o := range l {
		spoilBytes(o.Body)
		l[i] = api.Obu{Type: -99}
	}
	for i := range room(l) {
		room(l)[i].Type = -98
	}
}

// spoilBytes writes over bytes and over the room behind them.
func spoilBytes(b []byte) {
	for i := range b[:cap(b)] {
		b[:cap(b)][i] ^= 0x5a
	}
}

// What Split is handed is only read, and may be written over: the pieces stay. Pieces may be written over: the stream stays, and the other pieces (P19.4).
func TestSplitOfNewMemory(t *testing.T) {
	d := draws(201)
	for range 300 {
		want := d.pieces(1 + d.below(10))
		in := roomy(append(stream(want...), 64), 77)
		before := slices.Clone(in)
		l, at, e := units.Split(in)
		m, _, _ := units.Split(in)
		if !bytes.Equal(in, before) || slices.ContainsFunc(room(in), func(c byte) bool { return c != 77 }) {
			t.Fatalf("the stream has changed: %x; it was %x", in, before)
		}
		spoilBytes(in)
		if !alike(l, want) || at != len(before)-1 || e != api.ErrSyntax {
			t.Fatalf("%v; it was %v", l, want)
		}
		copy(in, before)
		for i := range l {
			spoil(l[i : i+1 : i+1])
			if !alike(l[i+1:], want[i+1:]) {
				t.Fatalf("the pieces behind %d have changed", i)
			}
		}
		if !bytes.Equal(in, before) || !alike(m, want) {
			t.Fatalf("writing over pieces changes the stream, or an earlier answer")
		}
	}
}

// What Join is handed is only read, and may be written over: the stream stays. The stream may be written over: the pieces stay (P19.4).
func TestJoinOfNewMemory(t *testing.T) {
	d := draws(202)
	for range 300 {
		want := d.pieces(d.below(10))
		in := roomyPieces(want)
		b, e := units.Join(in...)
		c, _ := units.Join(in...)
		untouched(t, in, want)
		spoil(in)
		if e != api.OK || !bytes.Equal(b, stream(want...)) {
			t.Fatalf("%x; it was %x", b, stream(want...))
		}
		in = roomyPieces(want)
		b, _ = units.Join(in...)
		spoilBytes(b)
		untouched(t, in, want)
		if !bytes.Equal(c, stream(want...)) {
			t.Fatalf("an earlier answer has changed: %x; it was %x", c, stream(want...))
		}
	}
}

// A stream of one piece is no body of it, whichever stands where it ends (P19.4).
func TestJoinOfOneIsNew(t *testing.T) {
	for _, n := range []int{0, 1, 127, 128, 5000} {
		o := frame(make([]byte, n)...)
		b, _ := units.Join(o)
		spoilBytes(b)
		if !bytes.Equal(o.Body, make([]byte, n)) {
			t.Fatalf("a body of %d has changed", n)
		}
	}
}

// What Units is handed is only read, and may be written over: the units stay. Units may be written over: the pieces stay, and the other units (P19.4).
func TestUnitsOfNewMemory(t *testing.T) {
	d := draws(203)
	for range 300 {
		want := d.grouped(1 + d.below(6))
		in := roomyPieces(want)
		all := grouping(t, in)
		more := grouping(t, in)
		untouched(t, in, want)
		spoil(in)
		model := modelUnits(want)
		if !slices.EqualFunc(all, model, alike) {
			t.Fatalf("%v; it was %v", all, model)
		}
		in = roomyPieces(want)
		all = grouping(t, in)
		for i := range all {
			spoil(all[i])
			all[i] = nil
			if !slices.EqualFunc(all[i+1:], model[i+1:], alike) {
				t.Fatalf("the units behind %d have changed", i)
			}
		}
		untouched(t, in, want)
		if !slices.EqualFunc(more, model, alike) {
			t.Fatalf("an earlier answer has changed: %v; it was %v", more, model)
		}
	}
}

// A unit that is made longer reaches into no other one, and a body into no other one (P19.4).
func TestNothingIsShared(t *testing.T) {
	d := draws(204)
	for range 200 {
		want := d.grouped(2 + d.below(6))
		all := grouping(t, want)
		model := modelUnits(kept(want))
		for i := range all {
			for at := range all[i] {
				_ = append(all[i][at].Body, 1, 2, 3, 4)
			}
			_ = append(all[i], frame(1), frame(2), frame(3))
		}
		_ = append(all, nil, nil)
		if !slices.EqualFunc(all, model, alike) {
			t.Fatalf("%v; it was %v", all, model)
		}
		l, _, _ := units.Split(stream(want...))
		for _, o := range l {
			_ = append(o.Body, 1, 2, 3, 4)
		}
		if !alike(l, want) {
			t.Fatalf("%v; it was %v", l, want)
		}
	}
}

// One body that is handed in several times is as many bodies when it comes out (P19.4).
func TestOneBodyOfMany(t *testing.T) {
	body := []byte{1, 2, 3}
	o := frame(body...)
	l := []api.Obu{unit(), o, o, unit(), o}
	all := grouping(t, l)
	all[0][0].Body[0] = 9
	if !bytes.Equal(all[0][1].Body, body) || !bytes.Equal(all[1][0].Body, body) || !bytes.Equal(o.Body, []byte{1, 2, 3}) {
		t.Fatalf("%v; body %v", all, o.Body)
	}
	joinIs(t, []byte{48, 3, 1, 2, 3, 48, 3, 1, 2, 3}, o, o)
}

// What is wrong is only read, too (P19.4).
func TestWrongOnlyRead(t *testing.T) {
	d := draws(205)
	for _, wrong := range append(spoiled(), frame(make([]byte, most+1)...)) {
		want := append(append(d.grouped(2), wrong), d.pieces(3)...)
		in := roomyPieces(want)
		units.Join(in...)
		units.Units(in)
		untouched(t, in, want)
	}
	anywhere, last := faults()
	for _, f := range append(anywhere, last...) {
		in := roomy(append(stream(d.pieces(3)...), f.b...), 77)
		before := slices.Clone(in)
		units.Split(in)
		if !bytes.Equal(in, before) || slices.ContainsFunc(room(in), func(c byte) bool { return c != 77 }) {
			t.Fatalf("the stream has changed: %x; it was %x", in, before)
		}
	}
}
