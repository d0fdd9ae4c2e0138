package subpel_test

import (
	"slices"
	"testing"

	"zoetrope/api"
	"zoetrope/subpel"
)

// roomy is a plane with spare room behind its samples, and that room as a whole.
func roomy(p api.Plane) (api.Plane, []uint8) {
	room := append(slices.Clone(p.Pix), 255, 0, 77, 255, 1, 2, 3)
	return api.Plane{W: p.W, H: p.H, Pix: room[:len(p.Pix)]}, room
}

// spoil changes a list, its spare room too.
func spoil(l []uint8) {
	l = l[:cap(l)]
	for i := range l {
		l[i] ^= 255
	}
}

// A plane is only read, its spare room neither read nor written, whether it is refused or not (P14.2).
func TestPlaneOnlyRead(t *testing.T) {
	d := draws(31)
	for _, keep := range append(planes(), wrong()...) {
		p, room := roomy(keep)
		before := slices.Clone(room)
		for range 8 {
			b := d.block(api.Plane{W: 20, H: 20})
			if d.below(4) == 0 {
				b.kind = 3
			}
			x, e := subpel.Fetch(p, b.x, b.y, b.w, b.h, b.kind)
			y, f := subpel.Fetch(api.Plane{W: keep.W, H: keep.H, Pix: slices.Clip(keep.Pix)}, b.x, b.y, b.w, b.h, b.kind)
			if !slices.Equal(room, before) || p.W != keep.W || p.H != keep.H || len(p.Pix) != len(keep.Pix) {
				t.Fatalf("%d by %d, %+v: changed", keep.W, keep.H, b)
			}
			if !slices.Equal(x, y) || e != f {
				t.Fatalf("%d by %d, %+v: with spare room something else", keep.W, keep.H, b)
			}
		}
	}
}

// What is answered is new memory, even where it is the plane's samples themselves (P14.2).
func TestBlocksAreNew(t *testing.T) {
	d := draws(32)
	for _, keep := range planes() {
		blocks := []block{{0, 0, min(max(keep.W, 4), 64), min(max(keep.H, 4), 64), 0}, {16, 0, 4, 4, 1}, {0, 16, 4, 4, 2}}
		for range 5 {
			blocks = append(blocks, d.block(keep))
		}
		for _, b := range blocks {
			p, room := roomy(keep)
			before := slices.Clone(room)
			x, y := fetched(t, p, b), fetched(t, p, b)
			want := slices.Clone(y)
			spoil(x)
			if !slices.Equal(room, before) || !slices.Equal(y, want) {
				t.Fatalf("%d by %d, %+v: an answer shares memory", p.W, p.H, b)
			}
			spoil(room)
			if !slices.Equal(y, want) {
				t.Fatalf("%d by %d, %+v: an answer changes with the plane", p.W, p.H, b)
			}
			fetchedIs(t, keep, b, want...)
		}
	}
}

// Nothing is kept: the same call answers the same again, whatever was asked between, refused among it (R2).
func TestNothingIsKept(t *testing.T) {
	d := draws(33)
	for range 50 {
		p := d.plane(1+d.below(30), 1+d.below(30))
		b := d.block(p)
		want := fetched(t, p, b)
		for range 3 {
			q := d.plane(1+d.below(30), 1+d.below(30))
			spoil(fetched(t, q, d.block(q)))
			spoil(fetched(t, q, b))
			refused(t, p, block{b.x, b.y, b.w, b.h, 3})
			refused(t, api.Plane{}, b)
			fetchedIs(t, p, b, want...)
		}
		// a plane whose samples have changed gives other blocks
		spoil(p.Pix)
		asModel(t, p, b)
	}
}
