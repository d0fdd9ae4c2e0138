package units_test

import (
	"bytes"
	"math"
	"math/bits"
	"slices"
	"testing"

	"zoetrope/api"
	"zoetrope/units"
)

// What is expected is worked out by none of the package's own calls.

const most = 1 << 24 // bytes of a body

func seq(body ...byte) api.Obu   { return api.Obu{Type: 1, Body: body} }
func unit(body ...byte) api.Obu  { return api.Obu{Type: 2, Body: body} }
func frame(body ...byte) api.Obu { return api.Obu{Type: 3, Body: body} }

func types() []int { return []int{1, 2, 3} }

// noTypes are numbers that are no type: near ones, ones whose lower bits look as if they might be, and far ones.
func noTypes() []int {
	l := []int{0, 4, 5, 7, 8, 15, 16, 32, 48, 255, 256, 257, 258, 259, 1<<16 + 1, 1<<16 + 2, 1<<16 + 3, -1, -2, -3, -4, -16, -255, -254, -253}
	l = append(l, math.MaxInt, math.MaxInt-1, math.MinInt, math.MinInt+1, math.MinInt+2, math.MinInt+3, math.MaxInt32, math.MinInt32, math.MinInt32+1, 1<<30+1, -1<<30+2)
	if bits.UintSize > 32 {
		for at := 28; at < bits.UintSize; at++ {
			for _, kind := range types() {
				l = append(l, kind+1<<at, kind-1<<at)
			}
		}
	}
	return l
}

// draws is a row of numbers that look mixed and are always the same.
type draws uint64

func (d *draws) below(n int) int {
	*d = *d*6364136223846793005 + 1442695040888963407
	return int(uint64(*d) >> 33 % uint64(n))
}

// one is any of a list.
func (d *draws) one(l ...int) int { return l[d.below(len(l))] }

// body is n bytes: as often mixed ones as such that look like pieces.
func (d *draws) body(n int) []byte {
	b := make([]byte, n)
	looks := d.below(2) == 0
	for i := range b {
		b[i] = byte(d.below(256))
		if looks {
			b[i] = byte(d.one(0, 1, 2, 16, 32, 48, 127, 128, 255))
		}
	}
	return b
}

// piece is any one whose body has mostly few bytes.
func (d *draws) piece() api.Obu {
	n := d.below(6)
	if d.below(8) == 0 {
		n = d.one(126, 127, 128, 129, 200, 255, 256, 300)
	}
	return api.Obu{Type: 1 + d.below(3), Body: d.body(n)}
}

// pieces are so many of any kind.
func (d *draws) pieces(n int) []api.Obu {
	l := make([]api.Obu, n)
	for i := range l {
		l[i] = d.piece()
	}
	return l
}

// grouped are pieces of so many temporal units.
func (d *draws) grouped(n int) []api.Obu {
	var l []api.Obu
	for range n {
		l = append(l, unit())
		for range d.below(4) {
			l = append(l, api.Obu{Type: d.one(1, 3), Body: d.body(d.below(5))})
		}
	}
	return l
}

// said is how many bytes a body has, as a stream says it: digits of a number by 128, each but the greatest one with the highest bit.
func said(n int) []byte {
	var b []byte
	for {
		digit := n % 128
		n /= 128
		if n == 0 {
			return append(b, byte(digit))
		}
		b = append(b, byte(digit+128))
	}
}

// written is a piece's bytes.
func written(o api.Obu) []byte {
	first := map[int]byte{1: 0x10, 2: 0x20, 3: 0x30}
	return slices.Concat([]byte{first[o.Type]}, said(len(o.Body)), o.Body)
}

// stream is the bytes of pieces, one behind the other.
func stream(l ...api.Obu) []byte {
	var b []byte
	for _, o := range l {
		b = append(b, written(o)...)
	}
	return b
}

// alike tells whether pieces are the same: bodies without bytes may be nil or not.
func alike(a, b []api.Obu) bool {
	return slices.EqualFunc(a, b, func(o, p api.Obu) bool { return o.Type == p.Type && bytes.Equal(o.Body, p.Body) })
}

// kept is a copy of pieces, bodies too.
func kept(l []api.Obu) []api.Obu {
	var out []api.Obu
	for _, o := range l {
		out = append(out, api.Obu{Type: o.Type, Body: slices.Clone(o.Body)})
	}
	return out
}

// short is a list that may be too long to be told.
func short[T any](l []T) []T { return l[:min(len(l), 20)] }

// split is what Split tells of bytes; an error beside which something is wrong at once fails.
func split(t *testing.T, b []byte) ([]api.Obu, int, api.Errno) {
	t.Helper()
	l, at, e := units.Split(b)
	if at < 0 || at > len(b) || e == api.OK && at != len(b) {
		t.Fatalf("Split(%x) of %d bytes: place %d, %d", short(b), len(b), at, e)
	}
	return l, at, e
}

// splitIs asks for just these pieces, this place and this error.
func splitIs(t *testing.T, b []byte, at int, e api.Errno, want ...api.Obu) {
	t.Helper()
	l, place, f := units.Split(b)
	if !alike(l, want) || place != at || f != e {
		t.Fatalf("Split(%x) of %d bytes: %d pieces, %d, %d; want %d, %d, %d", short(b), len(b), len(l), place, f, len(want), at, e)
	}
}

// whole asks for just these pieces of bytes that are all read.
func whole(t *testing.T, b []byte, want ...api.Obu) {
	t.Helper()
	splitIs(t, b, len(b), api.OK, want...)
}

// joinIs asks for just these bytes.
func joinIs(t *testing.T, want []byte, l ...api.Obu) {
	t.Helper()
	if b, e := units.Join(l...); !bytes.Equal(b, want) || e != api.OK {
		t.Fatalf("Join of %d: %d bytes, %x, %d; want %d, %x", len(l), len(b), short(b), e, len(want), short(want))
	}
}

// noJoin asks for an error, and for nothing beside it.
func noJoin(t *testing.T, want api.Errno, l ...api.Obu) {
	t.Helper()
	if b, e := units.Join(l...); len(b) != 0 || e != want {
		t.Fatalf("Join of %d: %d bytes, %d; want %d", len(l), len(b), e, want)
	}
}

// grouping is what Units tells of pieces that may be.
func grouping(t *testing.T, l []api.Obu) [][]api.Obu {
	t.Helper()
	all, e := units.Units(l)
	if e != api.OK {
		t.Fatalf("Units of %d: %d", len(l), e)
	}
	return all
}

// unitsAre asks for just these temporal units.
func unitsAre(t *testing.T, l []api.Obu, want ...[]api.Obu) {
	t.Helper()
	if all := grouping(t, l); !slices.EqualFunc(all, want, alike) {
		t.Fatalf("Units of %d: %d, %v; want %d, %v", len(l), len(all), short(all), len(want), short(want))
	}
}

// noUnits asks for ErrSyntax, and for nothing beside it.
func noUnits(t *testing.T, l ...api.Obu) {
	t.Helper()
	if all, e := units.Units(l); len(all) != 0 || e != api.ErrSyntax {
		t.Fatalf("Units of %d: %d, %d; want %d", len(l), len(all), e, api.ErrSyntax)
	}
}
