package bits

import (
	"slices"

	"zoetrope/api"
)

// Reader reads bits of bytes, the highest bit of each first.
type Reader struct {
	made  bool // tells a reader of no bytes from a zero one, which is as good as nil
	data  []byte
	place int // in bits
}

// New reads some bytes. It keeps a copy, so that whoever handed them in may change them.
func New(b []byte) *Reader {
	return &Reader{made: true, data: slices.Clone(b)}
}

// Fixed is a number of n bits.
func (r *Reader) Fixed(n int) (uint32, api.Errno) {
	if r.none() {
		return 0, api.ErrNil
	}
	if n < 0 || n > maxFixed {
		return 0, api.ErrArg
	}
	if r.Left() < n {
		return 0, api.ErrTrunc
	}
	v := r.look(r.place, n)
	r.place += n
	return v, api.OK
}

// Signed is a number of a sign's bit and n more.
func (r *Reader) Signed(n int) (int32, api.Errno) {
	if r.none() {
		return 0, api.ErrNil
	}
	if n < 1 || n > maxSigned {
		return 0, api.ErrArg
	}
	if r.Left() < n+1 {
		return 0, api.ErrTrunc
	}
	below := r.look(r.place, 1) == 1
	v := int32(r.look(r.place+1, n))
	if below && v == 0 {
		return 0, api.ErrSyntax // a second nought would be a second way to write it
	}
	if below {
		v = -v
	}
	r.place += n + 1
	return v, api.OK
}

// Uvlc is a number that tells its own length by the noughts ahead of it.
func (r *Reader) Uvlc() (uint32, api.Errno) {
	if r.none() {
		return 0, api.ErrNil
	}
	zeros := 0
count:
	for {
		switch {
		case zeros > maxZeros:
			return 0, api.ErrSyntax
		case zeros >= r.Left():
			return 0, api.ErrTrunc
		case r.look(r.place+zeros, 1) == 1:
			break count
		}
		zeros++
	}
	if r.Left() < 2*zeros+1 {
		return 0, api.ErrTrunc
	}
	// The bit 1 and what follows it are the number and one more.
	v := r.look(r.place+zeros, zeros+1) - 1
	r.place += 2*zeros + 1
	return v, api.OK
}

// Leb is a number of bytes, each of which says whether another one follows.
func (r *Reader) Leb() (uint32, api.Errno) {
	if r.none() {
		return 0, api.ErrNil
	}
	if r.place%8 != 0 {
		return 0, api.ErrArg
	}
	var v uint32
	// The fifth byte never says that another one follows: such a one is above lastLeb.
	for i := 0; ; i++ {
		at := r.place/8 + i
		if at >= len(r.data) {
			return 0, api.ErrTrunc
		}
		b := r.data[at]
		if i == maxLeb-1 && b > lastLeb || i > 0 && b == 0 {
			return 0, api.ErrSyntax
		}
		v |= uint32(b&^follows) << (7 * i)
		if b&follows == 0 {
			r.place = (at + 1) * 8
			return v, api.OK
		}
	}
}

// Align goes on to the next byte's beginning, over noughts alone.
func (r *Reader) Align() api.Errno {
	if r.none() {
		return api.ErrNil
	}
	gap := r.next()*8 - r.place
	if r.look(r.place, gap) != 0 {
		return api.ErrSyntax
	}
	r.place += gap
	return api.OK
}

// Left is how many bits are left.
func (r *Reader) Left() int {
	if r.none() {
		return 0
	}
	return len(r.data)*8 - r.place
}

// Rest is the bytes from the next byte's beginning on.
func (r *Reader) Rest() []byte {
	if r.none() {
		return nil
	}
	return slices.Clone(r.data[r.next():])
}

func (r *Reader) none() bool { return r == nil || !r.made }

// next is the number of the first byte that begins at the place or behind it.
func (r *Reader) next() int { return (r.place + 7) / 8 }

// look tells n bits at a place, 32 at most; whoever calls has seen that they are there.
func (r *Reader) look(place, n int) uint32 {
	end := place + n
	last := (end + 7) / 8
	var v uint64 // 32 bits that begin within a byte lie in five of them
	for _, b := range r.data[place/8 : last] {
		v = v<<8 | uint64(b)
	}
	v >>= last*8 - end
	return uint32(v & (1<<n - 1))
}
