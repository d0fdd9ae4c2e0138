package coefs_test

import (
	"bytes"
	"math"
	"math/bits"
	"slices"
	"testing"

	"zoetrope/api"
	"zoetrope/coefs"
	"zoetrope/syms"
)

func sizes() []int { return []int{4, 8, 16, 32, 64} }

// sideOf is a size's side; 0, where there is no such size.
func sideOf(size int) int {
	return map[int]int{4: 4, 8: 8, 16: 16, 32: 32, 64: 32}[size]
}

// places is how many levels a size's block has.
func places(size int) int { return sideOf(size) * sideOf(size) }

// far are numbers far away, some of whose lower bits look as if they might be a size, a plane or a level.
func far() []int {
	l := []int{math.MaxInt, math.MaxInt - 1, math.MinInt, math.MinInt + 1, math.MinInt + 4, math.MaxInt32, math.MinInt32, math.MinInt32 + 1, 1 << 30, -1 << 30}
	if bits.UintSize > 32 {
		for _, v := range []int{0, 1, 2, 4, 8, 64, -1, -4} {
			for at := 32; at < bits.UintSize; at++ {
				l = append(l, v+1<<at, v-1<<at)
			}
		}
	}
	return l
}

// noSizes are numbers below 0, 0, those just beside each size, and others that are none.
func noSizes() []int {
	l := []int{-64, -32, -16, -8, -4, -1, 256, 1024, 4096, 1 << 16}
	for n := range 130 {
		if sideOf(n) == 0 {
			l = append(l, n)
		}
	}
	return append(l, far()...)
}

// draws is a row of numbers that look mixed and are always the same.
type draws uint64

func (d *draws) below(n int) int {
	*d = *d*6364136223846793005 + 1442695040888963407
	return int(uint64(*d) >> 33 % uint64(n))
}

func (d *draws) bytes(n int) []byte {
	b := make([]byte, n)
	for i := range b {
		b[i] = byte(d.below(256))
	}
	return b
}

// levels are such as a size's block may have: few or many of them not 0, small or great ones.
func (d *draws) levels(size int) []int {
	l := make([]int, places(size))
	every := []int{1, 2, 5, 20, 200}[d.below(5)]
	most := []int{1, 2, 4, 18, 300, 1 << 20}[d.below(6)]
	end := d.below(len(l)) + 1
	for _, at := range orderOf(size)[:end] {
		if d.below(every) == 0 {
			l[at] = d.below(2*most+1) - most
		}
	}
	return l
}

// set is one whose tables are all sorts; the lesser the bound, the likelier each kind's greatest value.
func (d *draws) set(t *testing.T, bound int) api.Set {
	t.Helper()
	s := syms.Default()
	for k := range s.T {
		for i := range s.T[k] {
			c := s.T[k][i].C
			for j := range c[:len(c)-1] {
				c[j] = uint16(d.below(bound))
			}
			slices.Sort(c)
			s.T[k][i].Count = d.below(33)
		}
	}
	if e := syms.Check(s); e != api.OK {
		t.Fatalf("a set: %d", e)
	}
	return s
}

// sets are some that may be: the default one, mixed ones, and one in which the greatest values are the likeliest.
func sets(t *testing.T) []api.Set {
	t.Helper()
	d := draws(70)
	return []api.Set{syms.Default(), d.set(t, 32769), d.set(t, 32769), d.set(t, 9000)}
}

// block is what is handed in beside a coder.
type block struct {
	size, plane, sign int
	levels            []int
}

// block is any one that may be.
func (d *draws) block() block {
	size := sizes()[d.below(5)]
	return block{size, d.below(3), d.below(3), d.levels(size)}
}

func (d *draws) blocks(n int) []block {
	l := make([]block, n)
	for i := range l {
		l[i] = d.block()
	}
	return l
}

// with is a block of noughts but for some places.
func with(size, plane, sign int, set map[int]int) block {
	l := make([]int, places(size))
	for at, v := range set {
		l[at] = v
	}
	return block{size, plane, sign, l}
}

func writer(t *testing.T, s api.Set, adapt bool) *syms.Coder {
	t.Helper()
	c, e := syms.Writer(s, adapt)
	if e != api.OK {
		t.Fatalf("Writer: %d", e)
	}
	return c
}

func reader(t *testing.T, b []byte, s api.Set, adapt bool) *syms.Coder {
	t.Helper()
	c, e := syms.Reader(b, s, adapt)
	if e != api.OK {
		t.Fatalf("Reader: %d", e)
	}
	return c
}

// set is a coder's set, which must be told.
func set(t *testing.T, c *syms.Coder) api.Set {
	t.Helper()
	s, e := c.Set()
	if e != api.OK {
		t.Fatalf("Set: %d", e)
	}
	return s
}

func written(t *testing.T, c *syms.Coder) []byte {
	t.Helper()
	b, e := c.Bytes()
	if e != api.OK {
		t.Fatalf("Bytes: %d", e)
	}
	return b
}

func sameTable(a, b api.Table) bool { return slices.Equal(a.C, b.C) && a.Count == b.Count }

func sameSet(a, b api.Set) bool {
	return slices.EqualFunc(a.T, b.T, func(k, l []api.Table) bool { return slices.EqualFunc(k, l, sameTable) })
}

// alike asks whether two coders stand alike: counts, tables, and what was written.
func alike(t *testing.T, what string, a, b *syms.Coder) {
	t.Helper()
	if a.Count() != b.Count() {
		t.Fatalf("%s: counts %d and %d", what, a.Count(), b.Count())
	}
	if !sameSet(set(t, a), set(t, b)) {
		t.Fatalf("%s: the tables are not the same", what)
	}
	if a.Writes() {
		if x, y := written(t, a), written(t, b); !bytes.Equal(x, y) {
			t.Fatalf("%s: bytes %x and %x", what, x, y)
		}
	}
}

// codes has a coder code a block, which must answer its levels.
func codes(t *testing.T, c *syms.Coder, b block) {
	t.Helper()
	given := b.levels
	if !c.Writes() {
		given = nil
	}
	if got, e := coefs.Code(c, b.size, b.plane, b.sign, given); !slices.Equal(got, b.levels) || e != api.OK {
		t.Fatalf("size %d, plane %d, sign %d, %v: got %v, %d", b.size, b.plane, b.sign, b.levels, got, e)
	}
}

// refused asks for an error, and for nothing beside it.
func refused(t *testing.T, c *syms.Coder, b block, want api.Errno) {
	t.Helper()
	if got, e := coefs.Code(c, b.size, b.plane, b.sign, b.levels); len(got) != 0 || e != want {
		t.Fatalf("size %d, plane %d, sign %d, %d levels: got %v, %d, want %d", b.size, b.plane, b.sign, len(b.levels), got, e, want)
	}
}
