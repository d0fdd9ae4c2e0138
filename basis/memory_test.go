package basis_test

import (
	"slices"
	"testing"

	"zoetrope/api"
)

// roomy is a row with spare room behind its numbers, and that room as a whole.
func roomy(in []int, spare ...int) (row, room []int) {
	room = append(slices.Clone(in), spare...)
	return room[:len(in)], room
}

// rows are rows that may be, and such as may not, with a kind of each.
func rows() (kinds []int, l [][]int) {
	d := draws(8)
	for _, s := range shapes() {
		for _, in := range [][]int{d.row(s.n, 1000), make([]int, s.n), alike(s.n, 1<<20), single(s.n, s.n-1, 1<<20+1)} {
			kinds, l = append(kinds, s.kind), append(l, in)
		}
	}
	for _, kind := range []int{-1, 0, 1, 2, 3, 4} {
		for _, in := range [][]int{nil, {7}, d.row(5, 1000), d.row(128, 1000)} {
			kinds, l = append(kinds, kind), append(l, in)
		}
	}
	return kinds, l
}

// A row is only read, its spare room neither read nor written, whether it is refused or not (P7.2).
func TestRowsOnlyRead(t *testing.T) {
	kinds, l := rows()
	for i, keep := range l {
		for _, w := range ways() {
			in, room := roomy(keep, 1, -2, 1<<20+1, 3, 4)
			before := slices.Clone(room)
			x, e := w.call(kinds[i], in)
			y, f := w.call(kinds[i], slices.Clip(slices.Clone(keep)))
			if !slices.Equal(room, before) {
				t.Errorf("%s(%d, %v): has become %v", w.name, kinds[i], keep, room)
			}
			if !slices.Equal(x, y) || e != f {
				t.Errorf("%s(%d, %v): %v, %d, without spare room %v, %d", w.name, kinds[i], keep, x, e, y, f)
			}
		}
	}
}

// What is answered shares no memory with what was handed in, nor with another answer: neither changes with the other, spare room and all (P7.2).
func TestAnswersAreNew(t *testing.T) {
	d := draws(9)
	for _, s := range shapes() {
		for _, w := range ways() {
			in, room := roomy(d.row(s.n, 1000), 5, 6, 7)
			l := [][]int{room, must(t, w, s.kind, in), must(t, w, s.kind, in), must(t, w, s.kind, in)}
			for i := range l {
				spoil(l[i])
				for j := range l {
					if j != i && slices.Contains(l[j][:cap(l[j])], spoilt) {
						t.Fatalf("%s(%d, %d numbers): list %d shares memory with list %d", w.name, s.kind, s.n, j, i)
					}
				}
				clear(l[i][:cap(l[i])])
			}
		}
	}
}

// spoilt is a number that no answer has.
const spoilt = -987654321

// spoil fills a list, with its spare room.
func spoil(l []int) {
	l = l[:cap(l)]
	for i := range l {
		l[i] = spoilt
	}
}

// Nothing is kept: the same call answers the same again, whatever was asked between, refused among it, and whatever has become of the answers (R2).
func TestNothingIsKept(t *testing.T) {
	kinds, l := rows()
	for i, in := range l {
		for _, w := range ways() {
			x, e := w.call(kinds[i], in)
			before := slices.Clone(x)
			spoil(x)
			for j := range l {
				other, _ := w.call(kinds[j], l[j])
				spoil(other)
			}
			ways()[0].call(9, in)
			ways()[1].call(api.Wht, []int{1, 2, 3, 4})
			if y, f := w.call(kinds[i], in); !slices.Equal(y, before) || e != f {
				t.Errorf("%s(%d, %v): %v, %d, and the next time %v, %d", w.name, kinds[i], in, before, e, y, f)
			}
		}
	}
}
