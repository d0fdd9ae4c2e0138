package intra

import (
	"zoetrope/api"
)

// Weights of the smooth modes fall from one end of a block to the other.
const (
	mostWeight = 255
	weightFall = 224
	weights    = 256 // what two samples weigh together
)

// sampler is what a mode does: it tells the sample at a column and a row.
func sampler(n, mode, delta int, e api.Edges) func(x, y int) int {
	above, left := filled(e)
	switch mode {
	case api.ModeDc:
		mean := meanOf(e)
		return func(x, y int) int { return mean }
	case api.ModeSmooth:
		return func(x, y int) int { return round(fall(n, y, above(x), left(n-1))+fall(n, x, left(y), above(n-1)), 9) }
	case api.ModeSmoothV:
		return func(x, y int) int { return round(fall(n, y, above(x), left(n-1)), 8) }
	case api.ModeSmoothH:
		return func(x, y int) int { return round(fall(n, x, left(y), above(n-1)), 8) }
	case api.ModePaeth:
		return func(x, y int) int { return paeth(left(y), above(x), above(-1)) }
	case api.ModeV:
		if delta == 0 {
			return func(x, y int) int { return above(x) }
		}
		fallthrough
	case api.ModeH:
		if delta == 0 {
			return func(x, y int) int { return left(y) }
		}
		fallthrough
	default:
		angle, _ := Angle(mode, delta)
		return slanted(angle, slantedEdge(n, delta, above), slantedEdge(n, delta, left))
	}
}

// meanOf is the mean of the samples that are there.
func meanOf(e api.Edges) int {
	sum, many := 0, 0
	for _, samples := range [2][]uint8{e.Above, e.Left} {
		many += len(samples)
		for _, v := range samples {
			sum += int(v)
		}
	}
	if many == 0 {
		return middle
	}
	return (sum + many/2) / many
}

// fall is the sum of two samples as they weigh at the place i of n: near, from which the places go away, less and less.
func fall(n, i, near, far int) int {
	w := mostWeight - weightFall*i/(n-1)
	return w*near + (weights-w)*far
}

// paeth is the one of three samples that is nearest to what they point at; where several are, the first one.
func paeth(left, above, corner int) int {
	toward := left + above - corner
	best := left
	for _, v := range [2]int{above, corner} {
		if apart(v, toward) < apart(best, toward) {
			best = v
		}
	}
	return best
}

func apart(a, b int) int { return max(a-b, b-a) }
