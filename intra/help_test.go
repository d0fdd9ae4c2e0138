package intra_test

import (
	"math"
	"math/bits"
	"slices"
	"testing"

	"zoetrope/api"
	"zoetrope/intra"
)

func sizes() []int { return []int{4, 8, 16, 32, 64} }

// far are numbers far away, some of whose lower bits look as if they might be a size, a mode or a delta.
func far() []int {
	l := []int{math.MaxInt, math.MaxInt - 1, math.MaxInt - 3, math.MinInt, math.MinInt + 1, math.MinInt + 3, math.MinInt + 4, math.MinInt + 8, math.MinInt + 64, math.MaxInt32, math.MinInt32, math.MinInt32 + 1, 1 << 30, -1 << 30}
	if bits.UintSize > 32 {
		for _, v := range []int{0, 1, 3, 4, 8, 12, 64, -1, -3, -4} {
			for at := 32; at < bits.UintSize; at++ {
				l = append(l, v+1<<at, v-1<<at)
			}
		}
	}
	return l
}

// noSizes are numbers below 0, 0, those just beside each size, and others that are none.
func noSizes() []int {
	l := []int{-64, -32, -16, -8, -4, -2, -1, 128, 256, 512, 1024, 1 << 16}
	for _, n := range sizes() {
		l = append(l, n-1, n+1, 3*n, n<<8, n<<16)
	}
	for n := range 130 {
		if !slices.Contains(sizes(), n) {
			l = append(l, n)
		}
	}
	return append(l, far()...)
}

// noModes are numbers just beyond both ends of the modes, and far beyond them.
func noModes() []int {
	l := []int{-1, -2, -3, -8, -12, -13, -14, 13, 14, 15, 16, 99, 256, 257, 258}
	return append(l, far()...)
}

// noDeltas are numbers just beyond both ends of the deltas, and far beyond them.
func noDeltas() []int {
	l := []int{-4, -5, -6, -7, -30, -253, -255, -256, -257, 4, 5, 6, 7, 30, 253, 255, 256, 257}
	return append(l, far()...)
}

// own is each direction's angle, as the chapter has it.
var own = [...]int{1: 90, 2: 180, 3: 45, 4: 135, 5: 113, 6: 157, 7: 203, 8: 67}

// turned is a mode with a delta that it may have.
type turned struct{ mode, delta int }

// all are the modes, with each delta that they may have.
func all() []turned {
	var l []turned
	for mode := range 13 {
		for delta := -3; delta <= 3; delta++ {
			if m := (turned{mode, delta}); m.direction() || delta == 0 {
				l = append(l, m)
			}
		}
	}
	return l
}

// angle is that of a mode which is a direction.
func (m turned) angle() int { return own[m.mode] + 3*m.delta }

// direction tells whether a mode is one.
func (m turned) direction() bool { return m.mode >= 1 && m.mode <= 8 }

// draws is a row of numbers that look mixed and are always the same.
type draws uint64

func (d *draws) below(n int) int {
	*d = *d*6364136223846793005 + 1442695040888963407
	return int(uint64(*d) >> 33 % uint64(n))
}

// samples are n samples, each of them one of a few; of none any.
func (d *draws) samples(n int, few ...uint8) []uint8 {
	l := make([]uint8, n)
	for i := range l {
		l[i] = uint8(d.below(256))
		if len(few) > 0 {
			l[i] = few[d.below(len(few))]
		}
	}
	return l
}

// edges are some of which both are there, mixed of a few samples; of none of any.
func (d *draws) edges(n int, few ...uint8) api.Edges {
	return edges(d.samples(n, few...), d.samples(n, few...), d.samples(1, few...)[0])
}

// edges are such as are both there.
func edges(above, left []uint8, corner uint8) api.Edges {
	return api.Edges{HasAbove: true, HasLeft: true, Above: above, Left: left, Corner: corner}
}

// alike are n times one sample.
func alike(n int, v uint8) []uint8 { return slices.Repeat([]uint8{v}, n) }

// ramp is n samples that rise or fall by a step.
func ramp(n, from, step int) []uint8 {
	l := make([]uint8, n)
	for i := range l {
		l[i] = uint8(min(max(from+i*step, 0), 255))
	}
	return l
}

// aboveAlone, leftAlone and none are edges of which less is there; the corner stays, since it is to count for nothing.
func aboveAlone(e api.Edges) api.Edges { e.HasLeft, e.Left = false, nil; return e }
func leftAlone(e api.Edges) api.Edges  { e.HasAbove, e.Above = false, nil; return e }
func none(e api.Edges) api.Edges       { return aboveAlone(leftAlone(e)) }

// columns are the four columns of the table of filled edges, of one pair of edges.
func columns(e api.Edges) []api.Edges {
	return []api.Edges{e, aboveAlone(e), leftAlone(e), none(e)}
}

// sorts are edges of a size of all sorts, both there.
func sorts(n int) []api.Edges {
	d := draws(n)
	l := []api.Edges{
		edges(alike(n, 0), alike(n, 0), 0),
		edges(alike(n, 255), alike(n, 255), 255),
		edges(alike(n, 255), alike(n, 0), 0),
		edges(alike(n, 0), alike(n, 255), 255),
		edges(alike(n, 0), alike(n, 0), 255),
		edges(alike(n, 255), alike(n, 255), 0),
		edges(ramp(n, 0, 3), ramp(n, 255, -3), 128),
		edges(ramp(n, 200, -2), ramp(n, 40, 4), 9),
	}
	for range 6 {
		l = append(l, d.edges(n), d.edges(n, 0, 255), d.edges(n, 0, 1), d.edges(n, 254, 255))
	}
	return l
}

// must is a prediction that there must be.
func must(t *testing.T, n int, m turned, e api.Edges) []uint8 {
	t.Helper()
	b, err := intra.Predict(n, m.mode, m.delta, e)
	if err != api.OK || len(b) != n*n {
		t.Fatalf("Predict(%d, %d, %d, ..): %d samples, %d", n, m.mode, m.delta, len(b), err)
	}
	return b
}

// is asks for just these samples.
func is(t *testing.T, n int, m turned, e api.Edges, want ...uint8) {
	t.Helper()
	if b := must(t, n, m, e); !slices.Equal(b, want) {
		t.Errorf("Predict(%d, %d, %d, %v): %v, want %v", n, m.mode, m.delta, e, b, want)
	}
}

// rowIs asks for just these samples of one row.
func rowIs(t *testing.T, n int, m turned, e api.Edges, y int, want ...uint8) {
	t.Helper()
	if b := must(t, n, m, e)[y*n : y*n+n]; !slices.Equal(b, want) {
		t.Errorf("Predict(%d, %d, %d, ..), row %d: %v, want %v", n, m.mode, m.delta, y, b, want)
	}
}

// atIs asks for one sample.
func atIs(t *testing.T, n int, m turned, e api.Edges, x, y int, want uint8) {
	t.Helper()
	if v := must(t, n, m, e)[y*n+x]; v != want {
		t.Errorf("Predict(%d, %d, %d, ..), at %d, %d: %d, want %d", n, m.mode, m.delta, x, y, v, want)
	}
}

// check asks for what the model has.
func check(t *testing.T, n int, m turned, e api.Edges) {
	t.Helper()
	b, want := must(t, n, m, e), model(n, m, e)
	for i, v := range want {
		if int(b[i]) != v {
			t.Fatalf("Predict(%d, %d, %d, %v), at %d, %d: %d, want %d", n, m.mode, m.delta, e, i%n, i/n, b[i], v)
		}
	}
}

// refused asks for an error, and for nothing beside it.
func refused(t *testing.T, n, mode, delta int, e api.Edges, want api.Errno) {
	t.Helper()
	if b, err := intra.Predict(n, mode, delta, e); err != want || len(b) != 0 {
		t.Fatalf("Predict(%d, %d, %d, %v): %d samples, %d, want %d", n, mode, delta, e, len(b), err, want)
	}
}

// checks asks what Check says of edges.
func checks(t *testing.T, n int, e api.Edges, want api.Errno) {
	t.Helper()
	if err := intra.Check(n, e); err != want {
		t.Fatalf("Check(%d, %v): %d, want %d", n, e, err, want)
	}
}
