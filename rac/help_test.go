package rac_test

import (
	"math/big"
	"testing"

	"zoetrope/api"
	"zoetrope/rac"
)

// What is expected is worked out with numbers of any length, so that the models carry nothing and cut nothing off.

const all = 32768

// piece is a part of 32768, from lo up to hi without it.
type piece struct{ lo, hi uint32 }

func number(v uint64) *big.Int { return new(big.Int).SetUint64(v) }

// span is a range of a whole that grows by a byte whenever the range has become too narrow.
type span struct {
	low  *big.Int // of 4 bytes, and one more for each that went out
	rng  uint64
	sent int
}

func fresh() *span { return &span{low: new(big.Int), rng: 1<<32 - 1} }

func (s *span) narrow(p piece) {
	r := s.rng / 32768
	s.low.Add(s.low, number(r*uint64(p.lo)))
	if p.hi == 32768 {
		s.rng -= r * uint64(p.lo)
	} else {
		s.rng = r * uint64(p.hi-p.lo)
	}
	for s.rng < 16777216 {
		s.low.Mul(s.low, number(256))
		s.rng *= 256
		s.sent++
	}
}

// bytes are those of low, without the noughts at the end.
func (s *span) bytes() []byte {
	b := s.low.FillBytes(make([]byte, 4+s.sent))
	for len(b) > 0 && b[len(b)-1] == 0 {
		b = b[:len(b)-1]
	}
	return b
}

// place is where some bytes stand within the range.
func (s *span) place(b []byte) uint32 {
	n := 4 + s.sent
	have := append(append([]byte{}, b...), make([]byte, n)...)[:n]
	code := new(big.Int).SetBytes(have)
	if s.first255(b) {
		// The first four bytes count as 1 less, those behind them stay as they are.
		code.Sub(code, new(big.Int).Lsh(number(1), uint(8*s.sent)))
	}
	code.Sub(code, s.low)
	code.Div(code, number(s.rng/32768))
	if code.Cmp(number(32767)) > 0 {
		return 32767
	}
	return uint32(code.Uint64())
}

func (s *span) first255(b []byte) bool {
	return len(b) >= 4 && b[0] == 255 && b[1] == 255 && b[2] == 255 && b[3] == 255
}

// draws is a row of numbers that look mixed and are always the same.
type draws uint64

func (d *draws) below(n int) int {
	*d = *d*6364136223846793005 + 1442695040888963407
	return int(uint64(*d) >> 33 % uint64(n))
}

func (d *draws) bytes(n int) []byte {
	b := make([]byte, n)
	for i := range b {
		b[i] = byte(d.below(256))
	}
	return b
}

// habits are ways to choose parts: which one is chosen where hi is still free.
func habits() map[string]func(d *draws) piece {
	return map[string]func(d *draws) piece{
		"any": func(d *draws) piece {
			lo := d.below(all)
			return piece{uint32(lo), uint32(lo + 1 + d.below(all-lo))}
		},
		"ones": func(d *draws) piece {
			lo := uint32(d.below(all))
			return piece{lo, lo + 1}
		},
		"first": func(d *draws) piece { return piece{0, uint32(1 + d.below(3))} },
		"last":  func(d *draws) piece { return piece{uint32(all - 1 - d.below(3)), all} },
		"ends": func(d *draws) piece {
			return []piece{{0, 1}, {0, all}, {all - 1, all}, {0, all - 1}, {1, all}, {all - 2, all - 1}}[d.below(6)]
		},
		"wide": func(d *draws) piece { return piece{uint32(d.below(9)), uint32(all - d.below(9))} },
		"halves": func(d *draws) piece {
			return []piece{{0, 16384}, {16384, all}, {16383, 16385}}[d.below(3)]
		},
	}
}

// row is n parts of one habit.
func row(habit func(d *draws) piece, seed draws, n int) []piece {
	d := seed
	l := make([]piece, n)
	for i := range l {
		l[i] = habit(&d)
	}
	return l
}

// around is a part of any width that has a place.
func (d *draws) around(v uint32) piece {
	lo := d.below(int(v) + 1)
	hi := int(v) + 1 + d.below(all-int(v))
	switch d.below(4) {
	case 0:
		return piece{v, v + 1}
	case 1:
		return piece{uint32(lo), all}
	case 2:
		return piece{0, uint32(hi)}
	}
	return piece{uint32(lo), uint32(hi)}
}

// put puts parts, each of which must go well.
func put(t *testing.T, e *rac.Encoder, l ...piece) {
	t.Helper()
	for i, p := range l {
		if x := e.Put(p.lo, p.hi); x != api.OK {
			t.Fatalf("Put %d of %v: %d", i, p, x)
		}
	}
}

// stand asks where a decoder stands.
func stand(t *testing.T, d *rac.Decoder, want uint32) {
	t.Helper()
	if v, x := d.Value(); v != want || x != api.OK {
		t.Fatalf("Value: got %d, %d, want %d", v, x, want)
	}
}

func take(t *testing.T, d *rac.Decoder, p piece) {
	t.Helper()
	if x := d.Take(p.lo, p.hi); x != api.OK {
		t.Fatalf("Take %v: %d", p, x)
	}
}

// near is n parts of one that have a number strictly within them, so that what is written stays just below it; and where the number stands behind them.
func near(t *testing.T, target []byte, n int) (l []piece, at uint32) {
	t.Helper()
	d := rac.Read(target)
	for range n {
		v, _ := d.Value()
		l = append(l, piece{v, v + 1})
		take(t, d, piece{v, v + 1})
	}
	at, _ = d.Value()
	return l, at
}
