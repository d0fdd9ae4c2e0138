// Package bits is layer 1: it reads numbers out of bytes, bit by bit, and writes them so. See shared/doc/01-bits.md.
package bits

// The widest numbers of each kind: a number never leaves 32 bits.
const (
	maxFixed  = 32
	maxSigned = 31
	maxZeros  = 31 // noughts ahead of a uvlc
	maxLeb    = 5  // bytes of a leb
	lastLeb   = 15 // the greatest fifth byte: four times seven bits leave room for four
)

// follows is the bit of a leb's byte that says that another one follows.
const follows = 0x80
