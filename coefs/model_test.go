package coefs_test

import (
	"math/bits"
	"slices"
	"strconv"
	"testing"

	"zoetrope/api"
	"zoetrope/syms"
)

// number stands where a kind would: what is coded is a number of n bits.
const number = -1

// act is something that is coded: a symbol of a kind and a context, or a number of n bits.
type act struct{ kind, context, n, v int }

func symbol(kind, context, v int) act { return act{kind, context, 0, v} }

func plain(n, v int) act { return act{number, 0, n, v} }

// does has a coder code acts, each of which must answer its value.
func does(t *testing.T, c *syms.Coder, l ...act) {
	t.Helper()
	for _, a := range l {
		v, e := 0, api.OK
		if a.kind == number {
			v, e = c.Bits(a.n, a.v)
		} else {
			v, e = c.Symbol(a.kind, a.context, a.v)
		}
		if v != a.v || e != api.OK {
			t.Fatalf("%+v: got %d, %d", a, v, e)
		}
	}
}

// weight is how many symbols and bits acts are.
func weight(l []act) int {
	n := 0
	for _, a := range l {
		if a.kind == number {
			n += a.n
		} else {
			n++
		}
	}
	return n
}

// orderOf sorts places by their diagonals, and those by their rows.
func orderOf(size int) []int {
	side := sideOf(size)
	l := make([]int, side*side)
	for at := range l {
		l[at] = at
	}
	key := func(at int) int { return (at/side+at%side)*side + at/side }
	slices.SortFunc(l, func(a, b int) int { return key(a) - key(b) })
	return l
}

// half is half the sum (rounded up) over neighbours, each of which counts at most so much, but no more than most.
func half(levels []int, side, at, each, most int, near ...[2]int) int {
	sum := 0
	for _, n := range near {
		r, c := at/side+n[0], at%side+n[1]
		if r >= side || c >= side {
			continue
		}
		v := levels[r*side+c]
		if v < 0 {
			v = -v
		}
		sum += min(v, each)
	}
	return min(most, sum/2+sum%2)
}

func baseAt(levels []int, side, at int) int {
	return half(levels, side, at, 3, 4, [2]int{0, 1}, [2]int{1, 0}, [2]int{1, 1}, [2]int{0, 2}, [2]int{2, 0})
}

func moreAt(levels []int, side, at int) int {
	return half(levels, side, at, 15, 6, [2]int{0, 1}, [2]int{1, 0}, [2]int{1, 1})
}

// kindOf is which kind tells a size's ends, and which of its colour's contexts of SymZero a size has.
func kindOf(size int) (end, zero int) {
	switch size {
	case 4:
		return api.SymEob4, 0
	case 8:
		return api.SymEob8, 0
	case 16:
		return api.SymEob16, 1
	default:
		return api.SymEob32, 1
	}
}

// plan is all that is coded for a block, as the chapter tells it.
func plan(b block) []act {
	colour := min(b.plane, 1)
	kind, zero := kindOf(b.size)
	order, end := orderOf(b.size), 0
	for i, at := range order {
		if b.levels[at] != 0 {
			end = i + 1
		}
	}
	if end == 0 {
		return []act{symbol(api.SymZero, 2*colour+zero, 1)}
	}
	class := bits.Len(uint(end - 1))
	l := []act{symbol(api.SymZero, 2*colour+zero, 0), symbol(kind, colour, class)}
	if class > 1 {
		l = append(l, plain(class-1, end-1-1<<(class-1)))
	}
	for i := range order[:end] {
		at := order[end-1-i]
		first := symbol(api.SymBase, 5*colour+baseAt(b.levels, sideOf(b.size), at), 0)
		if i == 0 {
			first = symbol(api.SymLast, colour, -1)
		}
		a := b.levels[at]
		if a < 0 {
			a = -a
		}
		l = append(l, steps(a, first, symbol(api.SymMore, 7*colour+moreAt(b.levels, sideOf(b.size), at), 0))...)
	}
	for _, at := range order[:end] {
		sign := 0
		if b.levels[at] < 0 {
			sign = 1
		}
		switch {
		case b.levels[at] == 0:
		case at == 0:
			l = append(l, symbol(api.SymDcSign, 3*colour+b.sign, sign))
		default:
			l = append(l, plain(1, sign))
		}
	}
	return l
}

// steps are an amount's, the first and the further ones being so much more than those that are handed in.
func steps(a int, first, more act) []act {
	first.v += min(a, 3)
	l := []act{first}
	for from := 3; from <= 12; from += 3 {
		if a < from {
			return l
		}
		more.v = min(a-from, 3)
		l = append(l, more)
	}
	if a < 15 {
		return l
	}
	digits := strconv.FormatInt(int64(a-14), 2)
	for range len(digits) - 1 {
		l = append(l, plain(1, 0))
	}
	l = append(l, plain(1, 1))
	for _, c := range digits[1:] {
		l = append(l, plain(1, int(c-'0')))
	}
	return l
}

// source is a coder that reads, asked for what it must have.
type source struct {
	t *testing.T
	c *syms.Coder
}

func (s source) symbol(kind, context int) int {
	v, e := s.c.Symbol(kind, context, 0)
	if e != api.OK {
		s.t.Fatalf("Symbol(%d, %d): %d", kind, context, e)
	}
	return v
}

func (s source) bits(n int) int {
	v, e := s.c.Bits(n, 0)
	if e != api.OK {
		s.t.Fatalf("Bits(%d): %d", n, e)
	}
	return v
}

// block reads a block's levels as the chapter tells it; false, where more than 20 bits 0 stand ahead of the bit 1 of a length.
func (s source) block(size, plane, sign int) ([]int, bool) {
	levels, order, side, colour := make([]int, places(size)), orderOf(size), sideOf(size), (plane+1)/2
	kind, zero := kindOf(size)
	if s.symbol(api.SymZero, 2*colour+zero) == 1 {
		return levels, true
	}
	end := 1
	if class := s.symbol(kind, colour); class > 0 {
		end = 1<<(class-1) + 1 + s.bits(class-1)
	}
	for i := end - 1; i >= 0; i-- {
		a, ok := s.amount(levels, side, order[i], colour, i == end-1)
		if !ok {
			return nil, false
		}
		levels[order[i]] = a
	}
	for _, at := range order[:end] {
		if levels[at] == 0 {
			continue
		}
		below := 0
		if at == 0 {
			below = s.symbol(api.SymDcSign, 3*colour+sign)
		} else {
			below = s.bits(1)
		}
		levels[at] *= 1 - 2*below
	}
	return levels, true
}

func (s source) amount(levels []int, side, at, colour int, last bool) (int, bool) {
	a := 0
	if last {
		a = 1 + s.symbol(api.SymLast, colour)
	} else {
		a = s.symbol(api.SymBase, 5*colour+baseAt(levels, side, at))
	}
	for _, so := range []int{3, 6, 9, 12} {
		if a == so {
			a += s.symbol(api.SymMore, 7*colour+moreAt(levels, side, at))
		}
	}
	if a < 15 {
		return a, true
	}
	noughts := 0
	for s.bits(1) == 0 {
		noughts++
		if noughts == 21 {
			return 0, false
		}
	}
	return 14 + 1<<noughts + s.bits(noughts), true
}
