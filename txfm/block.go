package txfm

// block is n rows of n numbers, one row behind the other.
type block struct {
	n int
	v []int
}

// empty is a block of noughts.
func empty(n int) block { return block{n: n, v: make([]int, n*n)} }

// lay copies side rows of side numbers to the block's beginning.
func (b block) lay(in []int, side int) {
	for y := range side {
		copy(b.row(y), in[y*side:(y+1)*side])
	}
}

// corner is a copy of the first numbers of the first rows.
func (b block) corner(side int) []int {
	l := make([]int, 0, side*side)
	for y := range side {
		l = append(l, b.row(y)[:side]...)
	}
	return l
}

func (b block) row(y int) []int { return b.v[y*b.n : (y+1)*b.n] }

// rows turns the first rows, each into what is made of it. The others are left alone: noughts would come to noughts.
func (b block) rows(many int, turn func(in []int) []int) {
	for y := range many {
		copy(b.row(y), turn(b.row(y)))
	}
}

// columns turns all columns, each into what is made of it.
func (b block) columns(turn func(in []int) []int) {
	in := make([]int, b.n)
	for x := range b.n {
		for y := range b.n {
			in[y] = b.v[y*b.n+x]
		}
		out := turn(in)
		for y := range b.n {
			b.v[y*b.n+x] = out[y]
		}
	}
}

// each makes each number into another one.
func (b block) each(change func(v int) int) {
	for i := range len(b.v) {
		b.v[i] = change(b.v[i])
	}
}
