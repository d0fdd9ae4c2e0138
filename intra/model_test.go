package intra_test

import (
	"zoetrope/api"
)

// What is expected is worked out step by step as the chapter has it: edges are lists, of which new ones are made, and all that may be below 0 is divided by a division of the tests' own.

// slopes is the chapter's table, as it stands there.
var slopes = [...]int{
	3: 1023, 17: 215, 29: 116, 42: 71, 54: 45, 67: 27, 81: 11,
	6: 547, 20: 178, 32: 102, 45: 64, 58: 40, 70: 23, 84: 7,
	9: 372, 23: 151, 36: 90, 48: 57, 61: 35, 73: 19, 87: 3,
	14: 273, 26: 132, 39: 80, 51: 51, 64: 31, 76: 15,
}

// slope is a number of that table.
func slope(angle int) int {
	if slopes[angle] == 0 {
		panic("an angle that the chapter's table has not")
	}
	return slopes[angle]
}

// down is a / b, rounded down; b is above 0.
func down(a, b int) int {
	q := a / b
	if q*b > a {
		q--
	}
	return q
}

// nearest is a / b to the nearest, up from the middle; b is even.
func nearest(a, b int) int { return down(a+b/2, b) }

// ints are samples as numbers.
func ints(l []uint8) []int {
	out := make([]int, len(l))
	for i, v := range l {
		out[i] = int(v)
	}
	return out
}

// times are n times one number.
func times(n, v int) []int {
	l := make([]int, n)
	for i := range l {
		l[i] = v
	}
	return l
}

// fill is the chapter's table of filled edges.
func fill(n int, e api.Edges) (above, left []int, corner int) {
	above, left, corner = times(n, 127), times(n, 129), 128
	if e.HasAbove {
		above, left, corner = ints(e.Above), times(n, int(e.Above[0])), int(e.Above[0])
	}
	if e.HasLeft {
		left, corner = ints(e.Left), int(e.Left[0])
	}
	if e.HasLeft && !e.HasAbove {
		above = times(n, int(e.Left[0]))
	}
	if e.HasLeft && e.HasAbove {
		corner = int(e.Corner)
	}
	return above, left, corner
}

// long is a long edge, from the place -start on.
type long []int

const start = 4

func (l long) at(place int) int { return l[place+start] }

// makeLong is a long edge, with far more places than a slant may come to.
func makeLong(edge []int, corner int) long {
	l := long(times(start, corner))
	l = append(l, edge...)
	return append(l, times(8*len(edge), edge[len(edge)-1])...)
}

// smooth is a long edge of a block of n, smoothed.
func smooth(l long, n int) long {
	out := append(long{}, l...)
	for i := range 2 * n {
		after := l.at(i + 1)
		if i == 2*n-1 {
			after = l.at(2*n - 1)
		}
		out[i+start] = nearest(l.at(i-1)+2*l.at(i)+after, 4)
	}
	for i := 2 * n; i+start < len(out); i++ {
		out[i+start] = out.at(2*n - 1)
	}
	return out
}

// double is a long edge, doubled; places that there are not have a number by which it is told if they are asked.
func double(l long) long {
	out := long(times(2*len(l), -1<<20))
	for i := -1; i+2+start < len(l); i++ {
		out[2*i+start] = l.at(i)
		v := nearest(-l.at(i-1)+9*l.at(i)+9*l.at(i+1)-l.at(i+2), 16)
		out[2*i+1+start] = min(max(v, 0), 255)
	}
	return out
}

// slants is what a slanted direction sees.
type slants struct {
	above, left long
	u, last     int
}

func makeSlants(n, delta int, above, left []int, corner int) slants {
	s := slants{above: makeLong(above, corner), left: makeLong(left, corner), last: 2*n - 1}
	if delta != 0 && n >= 8 {
		s.above, s.left = smooth(s.above, n), smooth(s.left, n)
	}
	if delta != 0 && n == 4 {
		s.above, s.left, s.u, s.last = double(s.above), double(s.left), 1, 2*s.last
	}
	return s
}

// finer is how many places of the edges a sample has.
func (s slants) finer() int { return 1 + s.u }

func (s slants) between(l long, far, from int) int {
	b := down(far, 64/s.finer()) + from*s.finer()
	if b >= s.last {
		return l.at(s.last)
	}
	p := down(far*s.finer(), 2)
	part := p - 32*down(p, 32)
	return nearest((32-part)*l.at(b)+part*l.at(b+1), 32)
}

func (s slants) sample(angle, x, y int) int {
	switch {
	case angle < 90:
		return s.between(s.above, (y+1)*slope(angle), x)
	case angle > 180:
		return s.between(s.left, (x+1)*slope(270-angle), y)
	}
	far := 64*x - (y+1)*slope(180-angle)
	if down(far, 64/s.finer()) >= -s.finer() {
		return s.between(s.above, far, 0)
	}
	return s.between(s.left, 64*y-(x+1)*slope(angle-90), 0)
}

// dc is the mean of what is there, counted sample by sample.
func dc(e api.Edges) int {
	sum, many := 0, 0
	if e.HasAbove {
		for _, v := range e.Above {
			sum, many = sum+int(v), many+1
		}
	}
	if e.HasLeft {
		for _, v := range e.Left {
			sum, many = sum+int(v), many+1
		}
	}
	if many == 0 {
		return 128
	}
	return down(2*sum+many, 2*many)
}

// weight is that of the smooth modes, at the place i of n.
func weight(i, n int) int { return 255 - down(224*i, n-1) }

// pointed is the sample of a Paeth prediction: it is looked for ever farther from where it should be.
func pointed(left, above, corner int) int {
	p := left + above - corner
	for d := 0; ; d++ {
		for _, v := range []int{left, above, corner} {
			if v == p-d || v == p+d {
				return v
			}
		}
	}
}

// model is what Predict is to answer of what may be.
func model(n int, m turned, e api.Edges) []int {
	above, left, corner := fill(n, e)
	s := makeSlants(n, m.delta, above, left, corner)
	mean := dc(e)
	out := make([]int, 0, n*n)
	for y := range n {
		for x := range n {
			v := weight(y, n)*above[x] + (256-weight(y, n))*left[n-1]
			h := weight(x, n)*left[y] + (256-weight(x, n))*above[n-1]
			switch {
			case m.mode == api.ModeDc:
				out = append(out, mean)
			case m.mode == api.ModeSmooth:
				out = append(out, nearest(v+h, 512))
			case m.mode == api.ModeSmoothV:
				out = append(out, nearest(v, 256))
			case m.mode == api.ModeSmoothH:
				out = append(out, nearest(h, 256))
			case m.mode == api.ModePaeth:
				out = append(out, pointed(left[y], above[x], corner))
			case m.angle() == 90:
				out = append(out, above[x])
			case m.angle() == 180:
				out = append(out, left[y])
			default:
				out = append(out, s.sample(m.angle(), x, y))
			}
		}
	}
	return out
}
