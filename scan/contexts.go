package scan

import (
	"zoetrope/api"
)

// What is looked at for each context: so many neighbours, each of which counts at most so much, and the greatest context that there is.
const (
	baseNear, baseEach, baseMost = 5, 3, 4
	moreNear, moreEach, moreMost = 3, 15, 6
)

// step is how far a neighbour is away.
type step struct{ down, right int }

// near are the steps to a place's neighbours: in this order, since More looks at the first ones alone.
var near = [baseNear]step{{0, 1}, {1, 0}, {1, 1}, {0, 2}, {2, 0}}

// Base is the context of an amount's first step.
func Base(levels []int, size, at int) (int, api.Errno) {
	s, e := around(levels, size, at, baseNear, baseEach)
	if e != api.OK {
		return 0, e
	}
	return min(baseMost, (s+1)/2), api.OK
}

// More is the context of an amount's further steps.
func More(levels []int, size, at int) (int, api.Errno) {
	s, e := around(levels, size, at, moreNear, moreEach)
	if e != api.OK {
		return 0, e
	}
	return min(moreMost, (s+1)/2), api.OK
}

// around is the sum over the first neighbours of a place, if there is such a place of such a block.
func around(levels []int, size, at, many, each int) (int, api.Errno) {
	side, e := sideOf(size)
	if e != api.OK {
		return 0, e
	}
	if len(levels) != side*side || at < 0 || at >= side*side {
		return 0, api.ErrArg
	}
	s := 0
	for i := range many {
		r, c := at/side+near[i].down, at%side+near[i].right
		if r < side && c < side {
			s += amount(levels[r*side+c], each)
		}
	}
	return s, api.OK
}

// amount is a level without its sign, but no more than most. The level is not turned round ahead of that: the least number has no contrary.
func amount(level, most int) int {
	if level < -most || level > most {
		return most
	}
	return max(level, -level)
}
