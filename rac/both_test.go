package rac_test

import (
	"bytes"
	"slices"
	"testing"

	"zoetrope/api"
	"zoetrope/rac"
)

// found reads parts back; each of them must have the place where the decoder stands.
func found(t *testing.T, b []byte, l []piece) {
	t.Helper()
	d := rac.Read(b)
	for i, p := range l {
		v, x := d.Value()
		if x != api.OK || v < p.lo || v >= p.hi {
			t.Fatalf("part %d: %d, %d is not within %v", i, v, x, p)
		}
		take(t, d, p)
	}
}

// What was put is found, behind every habit and behind each count of parts (P2.3, W6).
func TestThereAndBack(t *testing.T) {
	for name, habit := range habits() {
		for seed := range draws(4) {
			l := row(habit, seed+20, 120)
			e := rac.New()
			for i, p := range l {
				put(t, e, p)
				if i < 12 || i%13 == 0 {
					found(t, e.Bytes(), l[:i+1])
				}
			}
			t.Run(name, func(t *testing.T) { found(t, e.Bytes(), l) })
		}
	}
	long := row(habits()["any"], 99, 20000)
	e := rac.New()
	put(t, e, long...)
	found(t, e.Bytes(), long)
}

// Parts that come to lie just below and just above a carry are found, too (P2.3).
func TestThereAndBackAcrossCarry(t *testing.T) {
	for n := range 60 {
		l, v := near(t, []byte{0x80}, n)
		for _, p := range []piece{{v, v + 1}, {v, all}, {min(v+1, all-1), all}, {0, v + 1}} {
			e := rac.New()
			m := append(slices.Clone(l), p, piece{0, 1}, piece{all - 1, all}, piece{77, 78})
			put(t, e, m...)
			found(t, e.Bytes(), m)
		}
	}
}

// Noughts at the end make no difference (P2.5).
func TestNoughtsAtTheEnd(t *testing.T) {
	for i, b := range append(samples(), []byte{1, 2, 3, 0, 0, 0}, []byte{9, 0, 0, 0, 0, 0, 0, 7, 0, 0}) {
		short := bytes.TrimRight(b, "\x00")
		for _, more := range []int{0, 1, 2, 3, 4, 5, 9, 100} {
			w := draws(i)
			one, two := rac.Read(short), rac.Read(append(slices.Clone(short), make([]byte, more)...))
			for range 60 {
				v, _ := one.Value()
				stand(t, two, v)
				p := w.around(v)
				take(t, one, p)
				take(t, two, p)
			}
		}
	}
}

// An encoder's bytes have no nought at the end, and are not too many (P2.5).
func TestEncodersBytesEnd(t *testing.T) {
	most := 0
	for name, habit := range habits() {
		for seed := range draws(5) {
			e := rac.New()
			for i, p := range row(habit, seed+40, 150) {
				put(t, e, p)
				b := e.Bytes()
				if len(b) > 0 && b[len(b)-1] == 0 {
					t.Fatalf("%s: %x ends with 0", name, b)
				}
				if len(b) > 4+2*(i+1) {
					t.Fatalf("%s: %d bytes of %d parts", name, len(b), i+1)
				}
				most = max(most, len(b))
			}
		}
	}
	if most < 250 {
		t.Errorf("the longest bytes are %d: the bound was not tried", most)
	}
}

// To narrow to all of it changes nothing that is seen, at once or behind it (P2.6).
func TestAllOfIt(t *testing.T) {
	for name, habit := range habits() {
		l := row(habit, 61, 150)
		e, s := rac.New(), fresh()
		for _, p := range l {
			before := e.Bytes()
			put(t, e, piece{0, all}, piece{0, all})
			if !bytes.Equal(e.Bytes(), before) {
				t.Fatalf("%s: all of it has changed the bytes", name)
			}
			put(t, e, p)
			s.narrow(p)
		}
		b := e.Bytes()
		if !bytes.Equal(b, s.bytes()) {
			t.Fatalf("%s: all of it has changed what is behind it", name)
		}
		one, two := rac.Read(b), rac.Read(b)
		for _, p := range l {
			v, _ := one.Value()
			take(t, one, piece{0, all})
			stand(t, one, v)
			stand(t, two, v)
			take(t, one, p)
			take(t, two, p)
		}
	}
}
