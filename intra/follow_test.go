package intra_test

import (
	"slices"
	"testing"

	"zoetrope/api"
)

// Of edges that are all alike each prediction is that sample (P12.4).
func TestAllAlike(t *testing.T) {
	for _, n := range sizes() {
		for v := range 256 {
			if n > 16 && v%51 > 1 {
				continue
			}
			l, want := alike(n, uint8(v)), alike(n*n, uint8(v))
			for _, m := range all() {
				is(t, n, m, edges(l, l, uint8(v)), want...)
				is(t, n, m, aboveAlone(edges(l, nil, uint8(v)^85)), want...) // the corner is not there
				is(t, n, m, leftAlone(edges(nil, l, uint8(v)^85)), want...)
			}
		}
	}
}

// seen are the samples between which a prediction is to lie.
func seen(n int, m turned, e api.Edges) []int {
	if m.mode == api.ModeDc {
		return ints(slices.Concat(e.Above, e.Left))
	}
	above, left, corner := fill(n, e)
	return append(slices.Concat(above, left), corner)
}

// ends are the least and the greatest one of some samples.
func ends(l []uint8) (least, most int) { return int(slices.Min(l)), int(slices.Max(l)) }

// Each sample lies between those of the filled edges; of ModeDc those that are there (P12.5).
func TestBetweenWhatIsSeen(t *testing.T) {
	d := draws(5)
	for _, n := range sizes() {
		l := sorts(n)
		for range 10 {
			v := uint8(d.below(200))
			l = append(l, d.edges(n, v, v+1), d.edges(n, v, v+55), d.edges(n, v+7, v+8, v+9, v+30))
		}
		for _, m := range all() {
			if n == 4 && m.delta != 0 {
				continue
			}
			for _, e := range l {
				for _, f := range columns(e) {
					b, s := must(t, n, m, f), seen(n, m, f)
					if len(s) == 0 {
						s = []int{128}
					}
					least, most := ends(b)
					if least < slices.Min(s) || most > slices.Max(s) {
						t.Fatalf("size %d, mode %v, %v: from %d to %d", n, m, f, least, most)
					}
				}
			}
		}
	}
}

// Doubled edges go beyond what is seen, either way (P12.5).
func TestDoubledGoBeyond(t *testing.T) {
	b := must(t, 4, turned{api.ModeD45, -2}, edges([]uint8{100, 100, 200, 200}, alike(4, 150), 150))
	if slices.Max(b) <= 200 {
		t.Errorf("none is greater: %v", b)
	}
	b = must(t, 4, turned{api.ModeD45, -2}, edges([]uint8{200, 200, 100, 100}, alike(4, 150), 150))
	if slices.Min(b) >= 100 {
		t.Errorf("none is less: %v", b)
	}
}

// exchanged are edges whose above is left, and whose left is above.
func exchanged(e api.Edges) api.Edges {
	return api.Edges{HasAbove: e.HasLeft, HasLeft: e.HasAbove, Above: e.Left, Left: e.Above, Corner: e.Corner}
}

// about is a block turned about its falling diagonal.
func about(n int, b []uint8) []uint8 {
	l := make([]uint8, len(b))
	for i, v := range b {
		l[i%n*n+i/n] = v
	}
	return l
}

// pairs are the modes that become each other, or themselves, where above and left are exchanged.
func pairs() [][2]turned {
	l := [][2]turned{
		{{api.ModeSmoothV, 0}, {api.ModeSmoothH, 0}},
		{{api.ModeDc, 0}, {api.ModeDc, 0}},
		{{api.ModeSmooth, 0}, {api.ModeSmooth, 0}},
		{{api.ModeD135, 0}, {api.ModeD135, 0}},
	}
	for delta := range 4 {
		l = append(l, [2]turned{{api.ModeV, -delta}, {api.ModeH, delta}})
	}
	for delta := -3; delta <= 3; delta++ {
		l = append(l, [2]turned{{api.ModeD67, delta}, {api.ModeD203, -delta}})
	}
	return l
}

// With above and left exchanged a prediction is turned about its falling diagonal (P12.6).
func TestExchanged(t *testing.T) {
	d := draws(6)
	for _, n := range sizes() {
		l := sorts(n)
		for range 20 {
			l = append(l, d.edges(n))
		}
		for _, p := range pairs() {
			for _, e := range l {
				for _, f := range columns(e)[:3] {
					if !slices.Equal(about(n, must(t, n, p[0], f)), must(t, n, p[1], exchanged(f))) {
						t.Fatalf("size %d, %v and %v, of %v", n, p[0], p[1], f)
					}
					if !slices.Equal(about(n, must(t, n, p[1], f)), must(t, n, p[0], exchanged(f))) {
						t.Fatalf("size %d, %v and %v, of %v", n, p[1], p[0], f)
					}
				}
			}
		}
	}
}

// The corner counts for nothing where one of both edges is not there, or neither is (P12.7).
func TestCornerThatIsNotThere(t *testing.T) {
	d := draws(7)
	for _, n := range sizes() {
		for _, m := range all() {
			for range 3 {
				for _, e := range columns(d.edges(n))[1:] {
					f := e
					f.Corner += 1 + uint8(d.below(255))
					if !slices.Equal(must(t, n, m, e), must(t, n, m, f)) {
						t.Fatalf("size %d, mode %v: the corner counts", n, m)
					}
				}
			}
		}
	}
}

// reads tells which parts of edges that are both there a mode may read: above and left (0 nothing, 1 the last sample, 2 all), and the corner.
func reads(m turned) (above, left int, corner bool) {
	switch {
	case m.mode == api.ModeDc, m.mode == api.ModeSmooth:
		return 2, 2, false
	case m.mode == api.ModeSmoothV:
		return 2, 1, false
	case m.mode == api.ModeSmoothH:
		return 1, 2, false
	case m.mode == api.ModePaeth:
		return 2, 2, true
	case m.angle() == 90:
		return 2, 0, false
	case m.angle() == 180:
		return 0, 2, false
	case m.angle() < 90:
		return 2, 0, m.delta != 0 // smoothed and doubled edges see it
	case m.angle() > 180:
		return 0, 2, m.delta != 0
	}
	return 2, 2, true
}

// spoilt is an edge of which that part is another one which is not read.
func spoilt(d *draws, l []uint8, read int) []uint8 {
	l = slices.Clone(l)
	for i := range l {
		if read == 0 || read == 1 && i < len(l)-1 {
			l[i] += 1 + uint8(d.below(255))
		}
	}
	return l
}

// What a mode does not read counts for nothing (P12.7).
func TestWhatIsNotRead(t *testing.T) {
	d := draws(8)
	for _, n := range sizes() {
		for _, m := range all() {
			above, left, corner := reads(m)
			for range 5 {
				e := d.edges(n)
				f := edges(spoilt(&d, e.Above, above), spoilt(&d, e.Left, left), e.Corner)
				if !corner {
					f.Corner += 1 + uint8(d.below(255))
				}
				if !slices.Equal(must(t, n, m, e), must(t, n, m, f)) {
					t.Fatalf("size %d, mode %v: what is not read counts", n, m)
				}
			}
		}
	}
}

// meetsBoth tells of a slant between 90 and 180 degrees whether some of a block's samples lie wholly in the edge above, and some in the left one.
func meetsBoth(n int, m turned) (above, left bool) {
	back, up := slope(180-m.angle()), slope(m.angle()-90)
	return 64*(n-1) >= back, 64*(n-1) >= up && n*back > 64
}

// What a mode reads does count, somewhere in the block (P12.7).
func TestWhatIsRead(t *testing.T) {
	for _, n := range sizes() {
		dark, light := alike(n, 0), alike(n, 255)
		counts := func(m turned, e api.Edges) bool { return slices.Max(must(t, n, m, e)) > 0 }
		for _, m := range all() {
			above, left, corner := true, true, false // what Paeth makes of the corner TestPaethOrder asks
			if m.direction() {
				above, left = m.angle() < 180, m.angle() > 90
			}
			if m.direction() && above && left {
				above, left = meetsBoth(n, m)
				corner = true
			}
			if above && !counts(m, edges(light, dark, 0)) || left && !counts(m, edges(dark, light, 0)) || corner && !counts(m, edges(dark, dark, 255)) {
				t.Fatalf("size %d, mode %v: above, left or corner does not count", n, m)
			}
		}
	}
}
