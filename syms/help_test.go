package syms_test

import (
	"math"
	"slices"
	"strconv"
	"strings"
	"testing"

	"zoetrope/api"
	"zoetrope/cdf"
	"zoetrope/rac"
	"zoetrope/syms"
)

const all = 32768

// text is the document's table as it stands there: two kinds a row, each with its number, contexts, values and first table.
const text = `
 0  8 10 F   16  3  4 F
 1  4  8 F   17  1  4 F
 2  3  2 F   18  2 11 S
 3  3  2 F   19  2  8 F
 4  4 13 F   20  1  3 F
 5  8  7 F   21  1  2 F
 6  1 13 F   22  4  2 F
 7  1 14 F   23  2  5 F
 8  1  8 F   24  2  7 F
 9  2 16 S   25  2  9 F
10  1  2 F   26  2 11 F
11  3  3 F   27  2  3 S
12  3  9 F   28 10  4 S
13  1  2 F   29 14  4 S
14  3  3 F   30  6  2 F
15  1  2 F   31  3  2 F
`

// form is what a kind is said to have.
type form struct {
	contexts, values int
	steep            bool
}

// forms are those of all kinds, by their numbers.
func forms(t *testing.T) []form {
	t.Helper()
	l := make([]form, 32)
	words := strings.Fields(text)
	for i := 0; i+4 <= len(words); i += 4 {
		var n [3]int
		for k := range n {
			v, err := strconv.Atoi(words[i+k])
			if err != nil {
				t.Fatal(err)
			}
			n[k] = v
		}
		l[n[0]] = form{n[1], n[2], words[i+3] == "S"}
	}
	return l
}

// wild are numbers that no kind, context, value or count of bits has.
func wild() []int {
	return []int{-1, -2, 32, 33, 64, 255, 256, 65536, -65536, 1 << 31, 1 << 32, -1 << 31, math.MaxInt, math.MinInt, math.MinInt + 1}
}

// draws is a row of numbers that look mixed and are always the same.
type draws uint64

func (d *draws) below(n int) int {
	*d = *d*6364136223846793005 + 1442695040888963407
	return int(uint64(*d) >> 33 % uint64(n))
}

func (d *draws) bytes(n int) []byte {
	b := make([]byte, n)
	for i := range b {
		b[i] = byte(d.below(256))
	}
	return b
}

// table is one of n values, whose elements are of any kind below a bound.
func (d *draws) table(n, bound int) api.Table {
	c := make([]uint16, n)
	for i := range c {
		c[i] = uint16(d.below(bound))
	}
	c[n-1] = all
	slices.Sort(c)
	return api.Table{C: c, Count: d.below(33)}
}

// set is one that may be, whose tables are all sorts.
func (d *draws) set(t *testing.T) api.Set {
	t.Helper()
	s := api.Set{}
	for _, f := range forms(t) {
		var l []api.Table
		for range f.contexts {
			l = append(l, d.table(f.values, []int{all + 1, all + 1, 64, 2, 1}[d.below(5)]))
		}
		s.T = append(s.T, l)
	}
	return s
}

// sets are some that may be.
func sets(t *testing.T) []api.Set {
	t.Helper()
	d := draws(70)
	return []api.Set{syms.Default(), d.set(t), d.set(t), d.set(t)}
}

// number stands where a kind would: what is coded is a number of n bits.
const number = -12345

// act is something that is coded: a symbol, or a number.
type act struct{ kind, context, n, v int }

// act is any one that may be.
func (d *draws) act(l []form) act {
	if d.below(5) == 0 {
		n := d.below(31)
		return act{number, 0, n, d.below(1 << n)}
	}
	k := d.below(len(l))
	return act{k, d.below(l[k].contexts), 0, d.below(l[k].values)}
}

func (d *draws) acts(t *testing.T, n int) []act {
	t.Helper()
	f := forms(t)
	l := make([]act, n)
	for i := range l {
		l[i] = d.act(f)
	}
	return l
}

// every is each kind with its first and last context and value, and numbers of 0 to 30 bits.
func every(t *testing.T) []act {
	t.Helper()
	var l []act
	for k, f := range forms(t) {
		for _, c := range []int{0, f.contexts / 2, f.contexts - 1} {
			for _, v := range []int{0, f.values - 1, f.values / 2} {
				l = append(l, act{k, c, 0, v})
			}
		}
	}
	for n := range 31 {
		l = append(l, act{number, 0, n, 0}, act{number, 0, n, 1<<n - 1}, act{number, 0, n, 1 << n / 3})
	}
	return l
}

// weight is what an act counts for.
func (a act) weight() int {
	if a.kind == number {
		return a.n
	}
	return 1
}

// do has a coder code something, with a value handed in.
func do(c *syms.Coder, a act, v int) (int, api.Errno) {
	if a.kind == number {
		return c.Bits(a.n, v)
	}
	return c.Symbol(a.kind, a.context, v)
}

// code has a coder code an act, which must go well and answer its value. A reader is handed nonsense.
func code(t *testing.T, c *syms.Coder, a act) {
	t.Helper()
	v := a.v
	if !c.Writes() {
		v = wild()[(a.v+a.context+a.n)%len(wild())]
	}
	if got, e := do(c, a, v); got != a.v || e != api.OK {
		t.Fatalf("%+v: got %d, %d", a, got, e)
	}
}

// model is a coder as the chapter tells it, made of the calls below it.
type model struct {
	out   *rac.Encoder
	in    *rac.Decoder
	set   api.Set
	adapt bool
}

// code codes an act; whoever reads is told the value.
func (m *model) code(t *testing.T, a act) int {
	t.Helper()
	if a.kind == number {
		v := 0
		for i := a.n - 1; i >= 0; i-- {
			b := uint32(a.v / (1 << i) % 2)
			if m.in != nil {
				at, _ := m.in.Value()
				b = 0
				if at >= 16384 {
					b = 1
				}
			}
			m.narrow(t, 16384*b, 16384*b+16384)
			v = 2*v + int(b)
		}
		return v
	}
	x, v := m.set.T[a.kind][a.context], a.v
	if m.in != nil {
		at, _ := m.in.Value()
		v, _ = cdf.Find(x, at)
	}
	lo, hi, _ := cdf.Bounds(x, v)
	m.narrow(t, lo, hi)
	if m.adapt {
		m.set.T[a.kind][a.context], _ = cdf.Adapt(x, v)
	}
	return v
}

// narrow narrows to a part, which must go well.
func (m *model) narrow(t *testing.T, lo, hi uint32) {
	t.Helper()
	e := api.OK
	if m.in != nil {
		e = m.in.Take(lo, hi)
	} else {
		e = m.out.Put(lo, hi)
	}
	if e != api.OK {
		t.Fatalf("the model is wrong: %d to %d: %d", lo, hi, e)
	}
}

// twin is a set that shares nothing with another one.
func twin(s api.Set) api.Set {
	var y api.Set
	for _, l := range s.T {
		var m []api.Table
		for _, x := range l {
			m = append(m, api.Table{C: slices.Clone(x.C), Count: x.Count})
		}
		y.T = append(y.T, m)
	}
	return y
}

func sameTable(a, b api.Table) bool { return slices.Equal(a.C, b.C) && a.Count == b.Count }

func same(a, b api.Set) bool {
	return slices.EqualFunc(a.T, b.T, func(k, l []api.Table) bool { return slices.EqualFunc(k, l, sameTable) })
}

// zero tells whether a set is what stands beside an error.
func zero(s api.Set) bool { return len(s.T) == 0 }

// roomy is a set that shares nothing with another one, with spare room behind each of its lists.
func roomy(s api.Set) api.Set {
	y := api.Set{T: make([][]api.Table, len(s.T), len(s.T)+2)}
	for k, l := range s.T {
		y.T[k] = make([]api.Table, len(l), len(l)+2)
		for i, x := range l {
			y.T[k][i] = api.Table{C: append(make([]uint16, 0, len(x.C)+3), x.C...), Count: x.Count}
		}
	}
	return y
}

// deep is all of a set, spare room and all.
func deep(s api.Set) string {
	var b strings.Builder
	for _, l := range s.T[:cap(s.T)] {
		b.WriteString("/")
		for _, x := range l[:cap(l)] {
			b.WriteString(" " + strconv.Itoa(x.Count) + ":")
			for _, c := range x.C[:cap(x.C)] {
				b.WriteString(" " + strconv.Itoa(int(c)))
			}
		}
	}
	return b.String()
}

// spoil changes all of a set, spare room too.
func spoil(s api.Set) {
	for _, l := range s.T {
		l = l[:cap(l)]
		for i := range l {
			spoilTable(&l[i])
		}
	}
	if len(s.T) > 0 {
		s.T[0] = nil
	}
}

func spoilTable(x *api.Table) {
	c := x.C[:cap(x.C)]
	for i := range c {
		c[i] ^= 0x5a5a
	}
	x.Count += 100
}

// apart tells that no two lists of a set share memory: to change one table changes nothing else.
func apart(t *testing.T, s api.Set) {
	t.Helper()
	keep := twin(s)
	for k := range s.T {
		for i := range s.T[k] {
			spoilTable(&s.T[k][i])
			spoilTable(&keep.T[k][i])
			if !same(s, keep) {
				t.Fatalf("the tables of kind %d, context %d share memory with others", k, i)
			}
			spoilTable(&s.T[k][i])
			s.T[k][i].Count -= 200
			keep.T[k][i] = api.Table{C: slices.Clone(s.T[k][i].C), Count: s.T[k][i].Count}
		}
	}
	for k, l := range s.T {
		l = l[:cap(l)]
		for i := len(s.T[k]); i < len(l); i++ {
			l[i] = api.Table{Count: 7}
		}
	}
	if !same(s, keep) {
		t.Fatal("lists of tables share memory")
	}
}

func writer(t *testing.T, s api.Set, adapt bool) *syms.Coder {
	t.Helper()
	c, e := syms.Writer(s, adapt)
	if c == nil || e != api.OK {
		t.Fatalf("Writer: %v, %d", c, e)
	}
	return c
}

func reader(t *testing.T, b []byte, s api.Set, adapt bool) *syms.Coder {
	t.Helper()
	c, e := syms.Reader(b, s, adapt)
	if c == nil || e != api.OK {
		t.Fatalf("Reader: %v, %d", c, e)
	}
	return c
}

// set is a coder's set, which must be told.
func set(t *testing.T, c *syms.Coder) api.Set {
	t.Helper()
	s, e := c.Set()
	if e != api.OK {
		t.Fatalf("Set: %d", e)
	}
	return s
}

func written(t *testing.T, c *syms.Coder) []byte {
	t.Helper()
	b, e := c.Bytes()
	if e != api.OK {
		t.Fatalf("Bytes: %d", e)
	}
	return b
}
