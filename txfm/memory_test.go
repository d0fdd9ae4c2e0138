package txfm_test

import (
	"slices"
	"testing"

	"zoetrope/txfm"
)

// spoilt is a number that no answer has.
const spoilt = -987654321

// spoil fills a list, its spare room too.
func spoil(l []int) {
	l = l[:cap(l)]
	for i := range l {
		l[i] = spoilt
	}
}

// roomy is a list with spare room behind its numbers, and that room as a whole.
func roomy(in []int, spare ...int) (l, room []int) {
	room = append(slices.Clone(in), spare...)
	return room[:len(in)], room
}

// handed are blocks that may be, and such as may not, with a shape of each.
func handed(w way) (l []shape, in [][]int) {
	d := draws(7)
	for _, s := range shapes() {
		n := w.many(s.size)
		for _, x := range [][]int{d.upTo(n, 255), make([]int, n), alike(n, w.most), single(n, n-1, w.most+1), d.upTo(n-1, 200), d.upTo(n+1, 200)} {
			l, in = append(l, s), append(in, x)
		}
	}
	for _, s := range []shape{{5, 0}, {4, 10}, {64, 8}, {0, 0}, {128, 0}} {
		for _, x := range [][]int{nil, {7}, d.upTo(16, 255)} {
			l, in = append(l, s), append(in, x)
		}
	}
	return l, in
}

// What is handed in is only read, its spare room neither read nor written, whether it is refused or not (P8.4).
func TestOnlyRead(t *testing.T) {
	for _, w := range ways() {
		l, all := handed(w)
		for i, s := range l {
			in, room := roomy(all[i], 1, -2, 1<<20+1, 3, 4)
			before := slices.Clone(room)
			x, e := w.call(s.size, s.kind, in)
			y, f := w.call(s.size, s.kind, slices.Clip(slices.Clone(all[i])))
			if !slices.Equal(room, before) {
				t.Errorf("%s(%v, %d numbers): changed", w.name, s, len(in))
			}
			if !slices.Equal(x, y) || e != f {
				t.Errorf("%s(%v, %d numbers): with spare room something else, %d and %d", w.name, s, len(in), e, f)
			}
		}
	}
}

// What is answered shares no memory with what was handed in, nor with another answer: neither changes with the other, spare room and all (P8.4).
func TestAnswersAreNew(t *testing.T) {
	d := draws(8)
	for _, s := range shapes() {
		for _, w := range ways() {
			in, room := roomy(d.upTo(w.many(s.size), 255), 5, 6, 7)
			apart(t, room, must(t, w, s, in), must(t, w, s, in), must(t, w, s, in))
		}
		apart(t, txfm.Types(s.size), txfm.Types(s.size), txfm.Types(s.size))
	}
}

// apart asks whether no two lists share memory.
func apart(t *testing.T, l ...[]int) {
	t.Helper()
	for i := range l {
		spoil(l[i])
		for j := range l {
			if j != i && slices.Contains(l[j][:cap(l[j])], spoilt) {
				t.Fatalf("list %d of %d numbers shares memory with list %d", j, len(l[j]), i)
			}
		}
		clear(l[i][:cap(l[i])])
	}
}

// Nothing of a call is seen in another one, not even where its answer or what it was handed is overwritten (P8.1, P8.4).
func TestNothingKept(t *testing.T) {
	d := draws(9)
	for _, s := range shapes() {
		for _, w := range ways() {
			in := d.upTo(w.many(s.size), 255)
			want := w.want(s.size, s.kind, in)
			for range 3 {
				other := d.upTo(len(in), 255)
				spoil(must(t, w, s, other))
				spoil(other)
				same(t, w, s, must(t, w, s, in), want)
			}
		}
		spoil(txfm.Types(s.size))
		if l := txfm.Types(s.size); !slices.Equal(l, had()[s.size]) {
			t.Fatalf("Types(%d): %v", s.size, l)
		}
	}
}
