package rac

import (
	"slices"

	"zoetrope/api"
)

// Decoder reads what an encoder has written, or any other bytes.
type Decoder struct {
	data []byte // that are not read yet
	code uint32 // always below rng
	rng  uint32 // 0 in a zero decoder alone, which is as good as nil
}

// Read reads some bytes. It keeps a copy, so that whoever handed them in may change them.
func Read(b []byte) *Decoder {
	d := &Decoder{data: slices.Clone(b), rng: whole}
	for range held {
		d.fetch()
	}
	d.code = min(d.code, whole-1)
	return d
}

// Value is where in 32768 the bytes stand.
func (d *Decoder) Value() (uint32, api.Errno) {
	if d.none() {
		return 0, api.ErrNil
	}
	return d.place(), api.OK
}

// Take narrows to a part that has the place where the bytes stand.
func (d *Decoder) Take(lo, hi uint32) api.Errno {
	if d.none() {
		return api.ErrNil
	}
	if at := d.place(); lo > at || at >= hi || hi > parts {
		return api.ErrArg
	}
	begin, width := part(d.rng, lo, hi)
	d.code -= begin
	d.rng = width
	for d.rng < least {
		d.fetch()
		d.rng <<= 8
	}
	return api.OK
}

func (d *Decoder) none() bool { return d == nil || d.rng == 0 }

// place is bounded, because what is left over when the range is cut belongs to the last part.
func (d *Decoder) place() uint32 {
	return min(d.code/(d.rng>>partBits), parts-1)
}

// fetch takes the next byte into code; behind the last one there are noughts without end.
func (d *Decoder) fetch() {
	d.code <<= 8
	if len(d.data) > 0 {
		d.code |= uint32(d.data[0])
		d.data = d.data[1:]
	}
}
