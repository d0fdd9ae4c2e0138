package intra

// Directions that come straight along columns and rows, in degrees; all others are slanted.
const (
	fromAbove = 90
	fromLeft  = 180
)

const (
	wholeBits   = 6
	whole       = 1 << wholeBits // how far along an edge is told in so many parts of a sample
	mixBits     = 5
	mix         = 1 << mixBits // two neighbours are mixed in half as many
	doubledSize = 4            // the edges of blocks of this size are doubled, those of greater ones smoothed
	steepest    = 87           // slope, in degrees
)

// slopes tell, by an angle, how far along an edge a slant goes for each sample away from it.
var slopes = [steepest + 1]int{
	3: 1023, 6: 547, 9: 372, 14: 273, 17: 215, 20: 178, 23: 151, 26: 132, 29: 116,
	32: 102, 36: 90, 39: 80, 42: 71, 45: 64, 48: 57, 51: 51, 54: 45, 58: 40,
	61: 35, 64: 31, 67: 27, 70: 23, 73: 19, 76: 15, 81: 11, 84: 7, 87: 3,
}

// slanted tells the sample at a column and a row by where its slant meets an edge.
func slanted(angle int, above, left edge) func(x, y int) int {
	switch {
	case angle < fromAbove:
		right := slopes[angle]
		return func(x, y int) int { return above(whole*x + right*(y+1)) }
	case angle > fromLeft:
		down := slopes[fromAbove+fromLeft-angle]
		return func(x, y int) int { return left(whole*y + down*(x+1)) }
	}
	back, up := slopes[fromLeft-angle], slopes[angle-fromAbove]
	return func(x, y int) int {
		far := whole*x - back*(y+1)
		if far < -whole { // it has passed the corner
			return left(whole*y - up*(x+1))
		}
		return above(far)
	}
}

// slantedEdge is an edge as slants see it: told by parts of a sample.
func slantedEdge(n, delta int, e edge) edge {
	switch {
	case delta == 0:
		return mixed(e, 1)
	case n == doubledSize:
		return mixed(doubled(e), 2)
	}
	return mixed(smoothed(e), 1)
}

// mixed tells an edge, so many places of which are a sample, by parts of a sample. Behind the last place nothing changes any more, so that none need be brought back to it.
func mixed(e edge, places int) edge {
	return func(far int) int {
		far *= places
		place, part := far>>wholeBits, far>>(wholeBits-mixBits)&(mix-1)
		return round((mix-part)*e(place)+part*e(place+1), mixBits)
	}
}
