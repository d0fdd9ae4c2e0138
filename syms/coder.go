package syms

import (
	"zoetrope/api"
	"zoetrope/cdf"
	"zoetrope/rac"
)

const (
	half     = 1 << 14 // of what rac's parts are parts of: a bit is as likely 0 as 1
	mostBits = 30
)

// Coder writes symbols, or reads them. One that has neither side is a zero one, which is as good as nil.
type Coder struct {
	out   *rac.Encoder // of a coder that writes
	in    *rac.Decoder // of a coder that reads
	set   api.Set      // its own, and one that may be
	adapt bool
	count int
}

// Reader is a coder that reads bytes.
func Reader(b []byte, s api.Set, adapt bool) (*Coder, api.Errno) {
	if e := Check(s); e != api.OK {
		return nil, e
	}
	return &Coder{in: rac.Read(b), set: Copy(s), adapt: adapt}, api.OK
}

// Writer is a coder that has written nothing.
func Writer(s api.Set, adapt bool) (*Coder, api.Errno) {
	if e := Check(s); e != api.OK {
		return nil, e
	}
	return &Coder{out: rac.New(), set: Copy(s), adapt: adapt}, api.OK
}

func (c *Coder) none() bool { return c == nil || c.out == nil && c.in == nil }

// Writes tells which side it is.
func (c *Coder) Writes() bool { return !c.none() && c.out != nil }

// Symbol writes a value of a kind, or reads one.
func (c *Coder) Symbol(kind, context, value int) (int, api.Errno) {
	if c.none() {
		return 0, api.ErrNil
	}
	contexts, values, e := Shape(kind)
	if e != api.OK {
		return 0, e
	}
	if context < 0 || context >= contexts || c.Writes() && (value < 0 || value >= values) {
		return 0, api.ErrArg
	}
	v := c.code(&c.set.T[kind][context], value)
	c.count++
	return v, api.OK
}

// code codes a value of a table of the coder's set. The calls below it can't fail: the table may be, the value is one of its own, and a part that was found has the place where the bytes stand.
func (c *Coder) code(t *api.Table, value int) int {
	if !c.Writes() {
		at, _ := c.in.Value()
		value, _ = cdf.Find(*t, at)
	}
	lo, hi, _ := cdf.Bounds(*t, value)
	c.narrow(lo, hi)
	if c.adapt {
		*t, _ = cdf.Adapt(*t, value)
	}
	return value
}

// narrow goes to a part on either side.
func (c *Coder) narrow(lo, hi uint32) {
	if c.Writes() {
		c.out.Put(lo, hi)
		return
	}
	c.in.Take(lo, hi)
}

// Bits writes a number of n bits, or reads one.
func (c *Coder) Bits(n, v int) (int, api.Errno) {
	if c.none() {
		return 0, api.ErrNil
	}
	if n < 0 || n > mostBits || c.Writes() && (v < 0 || v >= 1<<n) {
		return 0, api.ErrArg
	}
	number := 0
	for i := range n {
		number = number<<1 | c.bit(v>>(n-1-i)&1)
	}
	c.count += n
	return number, api.OK
}

// bit writes a bit, or reads one.
func (c *Coder) bit(b int) int {
	if !c.Writes() {
		at, _ := c.in.Value()
		b = int(at / half)
	}
	lo := half * uint32(b)
	c.narrow(lo, lo+half)
	return b
}

// Set is the coder's set as it is.
func (c *Coder) Set() (api.Set, api.Errno) {
	if c.none() {
		return api.Set{}, api.ErrNil
	}
	return Copy(c.set), api.OK
}

// Count is how many symbols and bits were coded.
func (c *Coder) Count() int {
	if c.none() {
		return 0
	}
	return c.count
}

// Bytes are those that were written; the coder can go on behind them.
func (c *Coder) Bytes() ([]byte, api.Errno) {
	if c.none() {
		return nil, api.ErrNil
	}
	if !c.Writes() {
		return nil, api.ErrSide
	}
	return c.out.Bytes(), api.OK
}
