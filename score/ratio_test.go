package score_test

import (
	"math"
	"math/big"
	"testing"

	"zoetrope/api"
	"zoetrope/score"
)

// wanted is how alike two planes of one size are, worked out as a fraction.
func wanted(a, b api.Plane) float64 {
	sum := int64(0)
	for i := range a.Pix {
		d := int64(max(a.Pix[i], b.Pix[i]) - min(a.Pix[i], b.Pix[i]))
		sum += d * d
	}
	if sum == 0 {
		return infinite()
	}
	return rounded(big.NewRat(65025*int64(a.W)*int64(a.H), sum))
}

// The chapter's row of planes (P6.1).
func TestRatioExamples(t *testing.T) {
	a, b, c := row(0, 0), row(0, 1), row(255, 255)
	is(t, score.Ratio(a, a), infinite(), "A and A")
	is(t, score.Ratio(a, b), 130050, "A and B")
	is(t, score.Ratio(a, c), 1, "A and C")
	is(t, score.Ratio(a, alike(1, 2, 0)), math.NaN(), "A and a plane of 1 by 2")
}

// Planes by hand, quotients that are rounded among them, and the greatest planes there are (P6.1).
func TestRatioByHand(t *testing.T) {
	for i, x := range []struct {
		a, b api.Plane
		want float64
	}{
		{row(0), row(255), 1}, {row(0), row(1), 65025}, {row(9), row(9), infinite()}, {row(7), row(0), 65025.0 / 49}, {row(3, 9, 4), row(0, 9, 0), 7803},
		{row(0, 255, 128), row(255, 0, 128), 1.5}, {row(1, 1, 1), row(0, 0, 0), 65025}, {row(1, 2, 3, 4), row(4, 3, 2, 1), 13005}, {row(0, 200), row(2, 203), 130050.0 / 13},
		{alike(512, 512, 0), alike(512, 512, 255), 1}, {alike(512, 512, 0), changed(alike(512, 512, 0), 1<<18-1, 1), 17045913600}, {alike(512, 512, 77), alike(512, 512, 77), infinite()},
		{alike(512, 1, 0), changed(alike(512, 1, 0), 511, 255), 512}, {alike(1, 512, 0), changed(alike(1, 512, 0), 0, 255), 512},
	} {
		is(t, score.Ratio(x.a, x.b), x.want, "%d", i)
		is(t, score.Ratio(x.b, x.a), x.want, "%d, the other way round", i)
	}
}

// Each two samples, on their own and beside others (P6.1, P6.6).
func TestRatioOfEverySample(t *testing.T) {
	for v := range 256 {
		for u := range 256 {
			for _, p := range [][2]api.Plane{{row(uint8(v)), row(uint8(u))}, {row(9, uint8(v), 4), row(9, uint8(u), 4)}} {
				is(t, score.Ratio(p[0], p[1]), wanted(p[0], p[1]), "%v and %v", p[0].Pix, p[1].Pix)
			}
		}
	}
}

// near are planes like another one, from itself to one with nothing in common.
func near(d *draws, a api.Plane) []api.Plane {
	last := len(a.Pix) - 1
	far := twin(a)
	for i := range far.Pix {
		far.Pix[i] ^= 255
	}
	return []api.Plane{
		a, twin(a), far, d.plane(a.W, a.H), alike(a.W, a.H, 0), alike(a.W, a.H, 255),
		changed(a, 0, a.Pix[0]^1), changed(a, last, a.Pix[last]^255), changed(a, last/2, a.Pix[last/2]^128), changed(a, d.below(last+1), 17),
	}
}

// Planes of each shape: either way round the same, infinite just if they are the same, and 1 at least (P6.1, P6.6).
func TestRatio(t *testing.T) {
	d := draws(61)
	for _, s := range shapes() {
		a := d.plane(s[0], s[1])
		for i, b := range near(&d, a) {
			x, y := score.Ratio(a, b), score.Ratio(b, a)
			is(t, x, wanted(a, b), "%d by %d, %d", a.W, a.H, i)
			is(t, y, x, "%d by %d, %d, the other way round", a.W, a.H, i)
			if !(x >= 1) {
				t.Errorf("%d by %d, %d: %v", a.W, a.H, i, x)
			}
			if math.IsInf(x, 1) != (string(a.Pix) == string(b.Pix)) {
				t.Errorf("%d by %d, %d: %v of planes that are the same: %v", a.W, a.H, i, x, string(a.Pix) == string(b.Pix))
			}
		}
	}
}

// A plane becomes another one, sample by sample, and on the way no less alike to it (P6.6).
func TestRatioOfMoreSamples(t *testing.T) {
	d := draws(62)
	for _, s := range [][2]int{{1, 1}, {2, 1}, {1, 3}, {5, 4}, {16, 16}, {1, 64}, {33, 20}} {
		a, b := d.plane(s[0], s[1]), d.plane(s[0], s[1])
		before := score.Ratio(a, b)
		for _, i := range d.order(len(a.Pix)) {
			a.Pix[i] = b.Pix[i]
			x := score.Ratio(a, b)
			if !(x >= before) {
				t.Errorf("%d by %d: %v behind %v", a.W, a.H, x, before)
			}
			before = x
		}
		is(t, before, infinite(), "%d by %d, all samples", s[0], s[1])
	}
}

// None of planes that may not be, on either side and both, also if they are the same (P6.1).
func TestRatioOfWrongPlanes(t *testing.T) {
	for i, p := range wrong() {
		for _, q := range []api.Plane{row(1), row(1, 2), alike(512, 512, 3), {W: 2, H: 3, Pix: []uint8{1, 2, 3, 4, 5, 6}}, {}} {
			is(t, score.Ratio(p, q), math.NaN(), "%d and %d by %d", i, q.W, q.H)
			is(t, score.Ratio(q, p), math.NaN(), "%d by %d and %d", q.W, q.H, i)
		}
		is(t, score.Ratio(p, p), math.NaN(), "%d and itself", i)
		is(t, score.Ratio(p, twin(p)), math.NaN(), "%d and its twin", i)
	}
}

// None of planes of different sizes, also if they have as many samples, and the same ones (P6.1).
func TestRatioOfDifferentSizes(t *testing.T) {
	for i, s := range shapes() {
		for j, u := range shapes() {
			x := score.Ratio(alike(s[0], s[1], 5), alike(u[0], u[1], 5))
			if i == j {
				is(t, x, infinite(), "%v and %v", s, u)
			} else {
				is(t, x, math.NaN(), "%v and %v", s, u)
			}
		}
	}
	for _, s := range [][4]int{{4, 1, 2, 2}, {1, 4, 2, 2}, {4, 1, 1, 4}, {6, 2, 4, 3}, {512, 1, 256, 2}, {2, 1, 2, 2}, {2, 2, 3, 2}} {
		is(t, score.Ratio(alike(s[0], s[1], 0), alike(s[2], s[3], 255)), math.NaN(), "%v", s)
		is(t, score.Ratio(alike(s[2], s[3], 9), alike(s[0], s[1], 9)), math.NaN(), "%v, the other way round", s)
	}
}
