package plane_test

import (
	"slices"
	"testing"

	"zoetrope/api"
	"zoetrope/plane"
)

// roomyPlane is a plane with spare room behind its samples, and that room as a whole.
func roomyPlane(p api.Plane) (api.Plane, []uint8) {
	b, room := roomy(p.Pix)
	return api.Plane{W: p.W, H: p.H, Pix: b}, room
}

// Whatever is asked of planes, refused or not, changes neither their samples nor their spare room (P5.6).
func TestPlanesOnlyRead(t *testing.T) {
	d := draws(41)
	for _, keep := range append(planes(), wrong()...) {
		p, room := roomyPlane(keep)
		q, other := roomyPlane(keep)
		before := slices.Clone(room)
		b, laid := roomy(d.samples(max(0, min(keep.W, 512)*min(keep.H, 512))))
		samples := slices.Clone(laid)
		whole := api.Rect{W: keep.W, H: keep.H}
		plane.Check(p)
		plane.At(p, 1, 1)
		plane.At(p, -1, 9999)
		plane.Same(p, q)
		plane.Apart(p, q)
		plane.Cut(p, whole)
		plane.Cut(p, api.Rect{W: 1, H: 1})
		plane.Cut(p, api.Rect{W: keep.W + 1, H: 1})
		plane.Lay(p, whole, b)
		plane.Lay(p, api.Rect{X: keep.W - 1, Y: keep.H - 1, W: 1, H: 1}, b[:min(1, len(b))])
		plane.Lay(p, whole, b[:len(b)/2])
		plane.Pad(p, keep.W, keep.H)
		plane.Pad(p, 512, 512)
		plane.Pad(p, 513, 512)
		if !slices.Equal(room, before) || !slices.Equal(other, before) || !slices.Equal(laid, samples) {
			t.Errorf("%d by %d: what was handed in has changed", keep.W, keep.H)
		}
		if p.W != keep.W || p.H != keep.H || len(p.Pix) != len(keep.Pix) {
			t.Errorf("%d by %d of %d has become %d by %d of %d", keep.W, keep.H, len(keep.Pix), p.W, p.H, len(p.Pix))
		}
	}
}

// So it is with frames (P5.6).
func TestFramesOnlyRead(t *testing.T) {
	for _, keep := range append(frames(), wrongFrames()...) {
		var f api.Frame
		var rooms, before [3][]uint8
		for i, p := range keep.P {
			f.P[i], rooms[i] = roomyPlane(p)
			before[i] = slices.Clone(rooms[i])
		}
		plane.Whole(f)
		plane.Coded(f)
		plane.Crop(f, 16, 16)
		plane.Crop(f, keep.P[0].W, keep.P[0].H)
		plane.Crop(f, 1, 1)
		for i := range f.P {
			if !slices.Equal(rooms[i], before[i]) {
				t.Errorf("%d by %d: plane %d has changed", keep.P[0].W, keep.P[0].H, i)
			}
		}
	}
}

// No two planes that are answered, or samples that are cut, share memory, nor with what was handed in, also where nothing was to be done (P5.6).
func TestPlanesAreNew(t *testing.T) {
	d := draws(42)
	for _, keep := range planes() {
		p, room := roomyPlane(keep)
		whole := api.Rect{W: p.W, H: p.H}
		b, laid := roomy(d.samples(p.W * p.H))
		one := d.rect(p)
		c, _ := plane.Cut(p, whole)
		again, _ := plane.Cut(p, whole)
		part, _ := plane.Cut(p, one)
		apart(t, "planes", room, laid, c, again, part,
			must(t)(plane.New(p.W, p.H, 7)).Pix, must(t)(plane.New(p.W, p.H, 7)).Pix,
			must(t)(plane.Lay(p, whole, b)).Pix, must(t)(plane.Lay(p, whole, b)).Pix, must(t)(plane.Lay(p, whole, p.Pix)).Pix, must(t)(plane.Lay(p, one, part)).Pix,
			must(t)(plane.Pad(p, p.W, p.H)).Pix, must(t)(plane.Pad(p, p.W, p.H)).Pix, must(t)(plane.Pad(p, 512, 512)).Pix, must(t)(plane.Pad(p, 512, 512)).Pix)
	}
}

// So it is with frames, and with the planes of one frame (P5.6).
func TestFramesAreNew(t *testing.T) {
	for _, keep := range frames() {
		f := twinFrame(keep)
		w, h := f.P[0].W, f.P[0].H
		var l [][]uint8
		for _, g := range []api.Frame{
			f, mustFrame(t)(plane.Frame(w, h, 7)), mustFrame(t)(plane.Frame(w, h, 7)),
			mustFrame(t)(plane.Coded(f)), mustFrame(t)(plane.Coded(f)),
			mustFrame(t)(plane.Crop(f, w, h)), mustFrame(t)(plane.Crop(f, w, h)), mustFrame(t)(plane.Crop(f, 16, 16)),
		} {
			l = append(l, g.P[0].Pix, g.P[1].Pix, g.P[2].Pix)
		}
		apart(t, "frames", l...)
	}
}

// A frame whose planes of colour are one list is answered as one whose planes are their own (P5.6).
func TestFramesOfOneList(t *testing.T) {
	d := draws(43)
	f := d.frame(18, 22)
	f.P[2] = f.P[1]
	for _, g := range []api.Frame{mustFrame(t)(plane.Coded(f)), mustFrame(t)(plane.Crop(f, 18, 22))} {
		if !same(g.P[1], g.P[2]) {
			t.Error("planes of colour that were the same are not")
		}
		apart(t, "a frame of one list", f.P[1].Pix, g.P[0].Pix, g.P[1].Pix, g.P[2].Pix)
	}
}

// What was handed in may change behind the call: nothing of it is kept, and the same call answers the same again (P5.6, R2).
func TestNothingIsKept(t *testing.T) {
	d := draws(44)
	p, f := d.plane(20, 18), d.frame(20, 18)
	r := api.Rect{X: 3, Y: 2, W: 7, H: 9}
	b := d.samples(63)
	ask := func() []api.Plane {
		c, _ := plane.Cut(p, r)
		coded, crop := mustFrame(t)(plane.Coded(f)), mustFrame(t)(plane.Crop(f, 18, 16))
		return append([]api.Plane{
			ints(7, 9, c...), must(t)(plane.Lay(p, r, b)), must(t)(plane.Pad(p, 33, 18)), must(t)(plane.New(20, 18, 3)), mustFrame(t)(plane.Frame(16, 18, 3)).P[1],
		}, append(coded.P[:], crop.P[:]...)...)
	}
	first, second := ask(), ask()
	var before []api.Plane
	for _, q := range first {
		before = append(before, twin(q))
	}
	spoil(p.Pix)
	spoil(b)
	spoilFrame(f)
	for i := range first {
		if !same(first[i], before[i]) || !same(second[i], before[i]) {
			t.Errorf("answer %d has changed", i)
		}
	}
	for _, q := range first {
		spoil(q.Pix)
	}
	spoil(p.Pix)
	spoil(b)
	spoilFrame(f)
	for i, q := range ask() {
		if !same(q, before[i]) {
			t.Errorf("answer %d is another the next time", i)
		}
	}
}
