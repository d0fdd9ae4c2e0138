package rac

import (
	"bytes"
	"slices"

	"zoetrope/api"
)

// Encoder narrows a range.
type Encoder struct {
	out []byte
	low uint64 // beyond 32 bits there is at most the 1 that is to be carried
	rng uint32 // 0 in a zero encoder alone, which is as good as nil
}

// New is one that has written nothing.
func New() *Encoder { return &Encoder{rng: whole} }

// Put narrows to a part of 32768.
func (e *Encoder) Put(lo, hi uint32) api.Errno {
	if e.none() {
		return api.ErrNil
	}
	if lo >= hi || hi > parts {
		return api.ErrArg
	}
	begin, width := part(e.rng, lo, hi)
	e.low += uint64(begin)
	e.rng = width
	for e.rng < least {
		e.send()
		e.rng <<= 8
	}
	return api.OK
}

// Bytes are those that were written. They are finished in a copy, so that the encoder may go on.
func (e *Encoder) Bytes() []byte {
	if e.none() {
		return nil
	}
	last := Encoder{out: slices.Clone(e.out), low: e.low}
	for range held {
		last.send()
	}
	return bytes.TrimRight(last.out, "\x00")
}

func (e *Encoder) none() bool { return e == nil || e.rng == 0 }

// send lets low's highest byte go out.
func (e *Encoder) send() {
	if e.low>>32 != 0 {
		e.carry()
	}
	e.out = append(e.out, byte(e.low>>24))
	e.low = e.low & (least - 1) << 8
}

// carry goes back over the bytes that are full, up to one that can take the 1.
func (e *Encoder) carry() {
back:
	for i := len(e.out) - 1; i >= 0; i-- {
		switch e.out[i] {
		case 255:
			e.out[i] = 0
		default:
			e.out[i]++
			break back
		}
	}
}
