package bits

import (
	mathbits "math/bits"
	"slices"

	"zoetrope/api"
)

// Writer writes bits into bytes, the highest bit of each first.
type Writer struct {
	made bool // tells a writer of nothing from a zero one, which is as good as nil
	data []byte
	free int // bits of the last byte that are not written yet: they are 0
}

// Write has written nothing.
func Write() *Writer { return &Writer{made: true} }

// Fixed writes a number of n bits.
func (w *Writer) Fixed(v uint32, n int) api.Errno {
	if w.none() {
		return api.ErrNil
	}
	if n < 0 || n > maxFixed || uint64(v)>>n != 0 {
		return api.ErrArg
	}
	w.put(v, n)
	return api.OK
}

// Signed writes a sign's bit and a number of n bits.
func (w *Writer) Signed(v int32, n int) api.Errno {
	if w.none() {
		return api.ErrNil
	}
	if n < 1 || n > maxSigned {
		return api.ErrArg
	}
	sign, far := uint32(0), int64(v) // the least int32 has no opposite of its kind
	if far < 0 {
		sign, far = 1, -far
	}
	if far>>n != 0 {
		return api.ErrArg
	}
	w.put(sign, 1)
	w.put(uint32(far), n)
	return api.OK
}

// Uvlc writes a number that tells its own length by the noughts ahead of it.
func (w *Writer) Uvlc(v uint32) api.Errno {
	if w.none() {
		return api.ErrNil
	}
	more := v + 1
	if more == 0 {
		return api.ErrArg
	}
	n := mathbits.Len32(more)
	w.put(0, n-1)
	w.put(more, n)
	return api.OK
}

// Leb writes a number in its fewest bytes.
func (w *Writer) Leb(v uint32) api.Errno {
	if w.none() {
		return api.ErrNil
	}
	if w.free != 0 {
		return api.ErrArg
	}
	for ; v >= follows; v >>= 7 {
		w.data = append(w.data, byte(v)|follows)
	}
	w.data = append(w.data, byte(v))
	return api.OK
}

// Align writes noughts, up to the next byte's beginning.
func (w *Writer) Align() api.Errno {
	if w.none() {
		return api.ErrNil
	}
	w.free = 0
	return api.OK
}

// Bytes is what was written, the last byte filled with noughts.
func (w *Writer) Bytes() []byte {
	if w.none() {
		return nil
	}
	return slices.Clone(w.data)
}

func (w *Writer) none() bool { return w == nil || !w.made }

// put writes the lowest n bits of v, which has none above them.
func (w *Writer) put(v uint32, n int) {
	for n > 0 {
		if w.free == 0 {
			w.data = append(w.data, 0)
			w.free = 8
		}
		k := min(n, w.free)
		n -= k
		w.free -= k
		part := v >> n & (1<<k - 1)
		w.data[len(w.data)-1] |= byte(part << w.free)
	}
}
