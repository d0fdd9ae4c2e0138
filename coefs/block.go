package coefs

import (
	"zoetrope/api"
	"zoetrope/scan"
	"zoetrope/syms"
)

// How many contexts each colour has of the kinds that have more than one.
const (
	zeroContexts = 2
	baseContexts = 5
	moreContexts = 7
	signContexts = 3
)

const (
	smallSize   = 8  // whether greater ones are all noughts has contexts of its own
	step        = 3  // what one step says of an amount at most; if it says so much, another one follows
	steps       = 5  // that an amount takes at most
	mostNoughts = 20 // ahead of a length's first bit
)

// stop is thrown where a block can't go on.
type stop struct{ why api.Errno }

// told is what a call told; where it failed, the block stops.
func told(v int, e api.Errno) int {
	if e != api.OK {
		panic(stop{e})
	}
	return v
}

// block is a transform block that is being coded.
type block struct {
	coder  *syms.Coder
	size   int
	colour int
	sign   int
	order  []int
	known  []int // what is coded already: amounts, which then get their signs
}

// code codes levels, and tells those that were coded. Whoever reads hands in noughts, since the coder doesn't look at them.
func (b *block) code(levels []int) (coded []int, e api.Errno) {
	defer func() {
		if thrown := recover(); thrown != nil {
			coded, e = nil, thrown.(stop).why // nothing else is thrown
		}
	}()
	end := b.end(endOf(b.order, levels))
	for i := end - 1; i >= 0; i-- {
		at := b.order[i]
		b.known[at] = b.amount(at, max(levels[at], -levels[at]), i == end-1)
	}
	for _, at := range b.order[:end] {
		if b.known[at] != 0 && b.below(at, levels[at]) {
			b.known[at] = -b.known[at]
		}
	}
	return b.known, api.OK
}

// end codes how many levels of the order are coded; 0, if all of them are 0.
func (b *block) end(end int) int {
	context := zeroContexts * b.colour
	if b.size > smallSize {
		context++
	}
	if told(b.coder.Symbol(api.SymZero, context, bit(end == 0))) == 1 {
		return 0
	}
	// Neither end that scan is asked about can be wrong: a block has at most as many levels as the greatest end of its kind's classes.
	class, _, extra, _ := scan.Class(max(end, 1))
	class = told(b.coder.Symbol(endKind(b.size), b.colour, class))
	// Whoever reads knows the class alone; its greatest end tells how many others it has.
	greatest := 1 << class
	_, n, others, _ := scan.Class(greatest)
	return greatest - others + told(b.coder.Bits(n, extra))
}

// amount says an amount step by step; what all of them leave is a length.
func (b *block) amount(at, amount int, last bool) int {
	said, part := 0, b.first(at, amount, last)
saying:
	for {
		said += part
		switch {
		case part < step:
			break saying
		case said == steps*step:
			said += b.length(amount-said+1) - 1
			break saying
		}
		part = b.more(at, amount-said)
	}
	return said
}

// first is an amount's first step. The last one of a block's levels can't be 0.
func (b *block) first(at, amount int, last bool) int {
	if last {
		return told(b.coder.Symbol(api.SymLast, b.colour, min(step, amount)-1)) + 1
	}
	context := baseContexts*b.colour + told(scan.Base(b.known, b.size, at))
	return told(b.coder.Symbol(api.SymBase, context, min(step, amount)))
}

// more is a further step, where so much is left of an amount.
func (b *block) more(at, left int) int {
	context := moreContexts*b.colour + told(scan.More(b.known, b.size, at))
	return told(b.coder.Symbol(api.SymMore, context, min(step, left)))
}

// length codes a number from 1 on: noughts say how many bits follow its highest one.
func (b *block) length(x int) int {
	n := 0
	for told(b.coder.Bits(1, bit(x>>n == 1))) == 0 {
		n++
		if n > mostNoughts {
			panic(stop{api.ErrSyntax})
		}
	}
	return 1<<n + told(b.coder.Bits(n, x-1<<n))
}

// below codes whether a level is below 0.
func (b *block) below(at, level int) bool {
	if at == 0 {
		return told(b.coder.Symbol(api.SymDcSign, signContexts*b.colour+b.sign, bit(level < 0))) == 1
	}
	return told(b.coder.Bits(1, bit(level < 0))) == 1
}

// endOf is where levels end: behind the last one in the order that is not 0.
func endOf(order, levels []int) int {
	end := len(order)
	for end > 0 && levels[order[end-1]] == 0 {
		end--
	}
	return end
}

// endKind is the kind of symbol that tells the class of a size's end.
func endKind(size int) int {
	switch size {
	case 4:
		return api.SymEob4
	case 8:
		return api.SymEob8
	case 16:
		return api.SymEob16
	}
	return api.SymEob32
}

// bit is a bit that tells whether something is so.
func bit(so bool) int {
	if so {
		return 1
	}
	return 0
}
