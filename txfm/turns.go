package txfm

import (
	"zoetrope/api"
	"zoetrope/basis"
)

// line is the kind by which a row or a column is turned. No error can come of it: a block's size has rows of its kinds, and what is in it stays within 2^20.
type line int

func (k line) inverse(in []int) []int {
	out, _ := basis.Inverse(int(k), in)
	return out
}

func (k line) forward(in []int) []int {
	out, _ := basis.Forward(int(k), in)
	return out
}

// lines are the kinds of a block's rows and columns.
func lines(kind int) (row, column line) {
	if kind == api.TxWht {
		return api.Wht, api.Wht
	}
	return line(kind % 3), line(kind / 3)
}

// inverse turns a block whose coefficients are in its first rows. What Wht gives is neither brought down nor clipped, so that nothing is lost.
func (b block) inverse(kind, side int) {
	row, column := lines(kind)
	b.each(clipped)
	b.rows(side, row.inverse)
	if kind == api.TxWht {
		b.columns(column.inverse)
		return
	}
	b.each(b.between)
	b.columns(column.inverse)
	b.each(lessened)
}

// forward goes the other way, columns first.
func (b block) forward(kind int) {
	row, column := lines(kind)
	b.columns(column.forward)
	b.rows(b.n, row.forward)
	if kind != api.TxWht {
		b.each(b.scaled)
	}
}

// between is what becomes of a number behind its row and ahead of its column.
func (b block) between(v int) int {
	switch b.n {
	case 4:
		return clipped(v)
	case 8:
		return clipped(round(v, 1))
	}
	return clipped(round(v, 2))
}

// lessened is what becomes of a number behind both.
func lessened(v int) int { return round(v, 4) }

// scaled brings the coefficients of all sizes to one measure, which inverse asks for.
func (b block) scaled(v int) int {
	switch b.n {
	case 4:
		return clipped(4 * v)
	case 8:
		return clipped(2 * v)
	case 16:
		return clipped(v)
	case 32:
		return clipped(round(v, 2))
	}
	return clipped(round(v, 4))
}

// round is v / 2^n to the nearest, up from the middle; n is above 0.
func round(v, n int) int { return (v + 1<<(n-1)) >> n }

// clipped is a number brought into 16 bits.
func clipped(v int) int { return min(max(v, -1<<15), 1<<15-1) }
