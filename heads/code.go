package heads

import (
	"zoetrope/api"
	"zoetrope/bits"
)

// How many bits numbers have that are told more than once.
const (
	slotBits  = 3
	deltaBits = 5
	cutBits   = 2
	levelBits = 6
	priBits   = 4
	secBits   = 2
)

// coder goes through a header's fields and writes them, or reads them into them. Behind an error it does nothing any more.
type coder struct {
	w   *bits.Writer // nil: it reads
	r   *bits.Reader
	err api.Errno
}

// number codes how many steps a number is above the least one.
func (c *coder) number(p *int, n, least, step int) {
	if c.err != api.OK {
		return
	}
	if c.w != nil {
		c.err = c.w.Fixed(uint32((*p-least)/step), n)
		return
	}
	v, e := c.r.Fixed(n)
	if e != api.OK {
		c.err = e
		return
	}
	*p = least + int(v)*step
}

// count codes a number from 0 on.
func (c *coder) count(p *int, n int) { c.number(p, n, 0, 1) }

func (c *coder) truth(p *bool) {
	v := 0
	if *p {
		v = 1
	}
	c.count(&v, 1)
	*p = v == 1
}

// signed codes a number that may be below 0; whoever calls has just been told without an error that it is there.
func (c *coder) signed(p *int, n int) {
	if c.w != nil {
		c.err = c.w.Signed(int32(*p), n)
		return
	}
	v, e := c.r.Signed(n)
	*p, c.err = int(v), e
}

// ask is an error, unless something holds.
func (c *coder) ask(holds bool, e api.Errno) {
	if c.err == api.OK && !holds {
		c.err = e
	}
}

// seq codes a sequence header, and the bits that its last byte has left.
func (c *coder) seq(s *api.Seq, spare *int) {
	c.number(&s.W, 7, api.MinSide, 2)
	c.number(&s.H, 7, api.MinSide, 2)
	c.count(spare, 2)
}

// head codes a frame header.
func (c *coder) head(h *api.Head, s api.Seq) {
	c.truth(&h.Existing)
	if h.Existing {
		c.count(&h.Slot, slotBits)
		return
	}
	c.truth(&h.Show)
	c.truth(&h.Key)
	c.count(&h.Refresh, 8)
	c.refs(h)
	c.count(&h.Base, 8)
	for i := range h.Deltas {
		c.delta(&h.Deltas[i])
	}
	c.cut(&h.Cols, s.W)
	c.cut(&h.Rows, s.H)
	c.truth(&h.NoAdapt)
	if !isLossless(*h) {
		c.filters(h)
	}
}

// refs codes the slots that a frame begins with; a key frame has none.
func (c *coder) refs(h *api.Head) {
	if h.Key {
		h.Primary = noPrimary
		return
	}
	for i := range h.Refs {
		c.count(&h.Refs[i], slotBits)
	}
	told := h.Primary != noPrimary
	c.truth(&told)
	if told {
		c.count(&h.Primary, slotBits)
	} else {
		h.Primary = noPrimary
	}
}

// delta codes a number that is mostly 0: a 0 that is told not to be one would be a second way to say it.
func (c *coder) delta(p *int) {
	told := *p != 0
	c.truth(&told)
	if told {
		c.signed(p, deltaBits)
		c.ask(*p != 0, api.ErrSyntax)
	}
}

// cut codes into how many tiles a side is cut.
func (c *coder) cut(p *int, side int) {
	c.count(p, cutBits)
	c.ask(isCut(*p, side), api.ErrLimit)
}

func (c *coder) filters(h *api.Head) {
	for i := range h.Levels {
		c.count(&h.Levels[i], levelBits)
	}
	c.count(&h.Sharp, 3)
	c.truth(&h.Cdef)
	if h.Cdef {
		c.cdef(h)
	}
	for i := range h.Restore {
		c.truth(&h.Restore[i])
	}
}

func (c *coder) cdef(h *api.Head) {
	c.number(&h.Damping, 2, leastDamping, 1)
	c.count(&h.CdefBits, 2)
	if c.w == nil {
		h.Strengths = make([]api.Strength, 1<<h.CdefBits)
	}
	for i := range h.Strengths {
		x := &h.Strengths[i]
		c.count(&x.YPri, priBits)
		c.count(&x.YSec, secBits)
		c.count(&x.UVPri, priBits)
		c.count(&x.UVSec, secBits)
	}
}
