package intra

import (
	"zoetrope/api"
)

// What stands for the samples where neither edge is there.
const (
	noAbove = 127
	noLeft  = 129
	middle  = 128 // the corner, and the mean
)

const mostSample = 255

// edge tells the sample at a place of an edge: from 0 on beside the block, below 0 the corner. It goes on without end, so that whoever follows a slant need not know where it ends.
type edge func(place int) int

// long is the edge of some samples, the last of which is repeated.
func long(corner uint8, samples ...uint8) edge {
	last := len(samples) - 1
	return func(place int) int {
		if place < 0 {
			return int(corner)
		}
		return int(samples[min(place, last)])
	}
}

// filled are both edges, where what is missing is made up of what is there.
func filled(e api.Edges) (above, left edge) {
	switch {
	case e.HasAbove && e.HasLeft:
		return long(e.Corner, e.Above...), long(e.Corner, e.Left...)
	case e.HasAbove:
		first := e.Above[0]
		return long(first, e.Above...), long(first, first)
	case e.HasLeft:
		first := e.Left[0]
		return long(first, first), long(first, e.Left...)
	}
	return long(middle, noAbove), long(middle, noLeft)
}

// smoothed is an edge whose samples are mixed with their neighbours; the corner stays.
func smoothed(e edge) edge {
	return func(place int) int {
		if place < 0 {
			return e(place)
		}
		return round(e(place-1)+2*e(place)+e(place+1), 2)
	}
}

// doubled is an edge with one more place between any two.
func doubled(e edge) edge {
	return func(place int) int {
		i := place >> 1
		if place&1 == 0 {
			return e(i)
		}
		return clip(round(9*(e(i)+e(i+1))-e(i-1)-e(i+2), 4))
	}
}

// round is a over 2^n, to the nearest, up from the middle; n is above 0.
func round(a, n int) int { return (a + 1<<(n-1)) >> n }

func clip(v int) int { return max(0, min(v, mostSample)) }
