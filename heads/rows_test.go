package heads_test

import "zoetrope/api"

// seqRow is a sequence header and its bytes, worked out by hand.
type seqRow struct {
	s    api.Seq
	a, b byte
}

func seqRows() []seqRow {
	return []seqRow{
		{seq(16, 16), 0x00, 0x00}, {seq(18, 16), 0x02, 0x00}, {seq(16, 18), 0x00, 0x04}, {seq(64, 32), 0x30, 0x20}, {seq(32, 64), 0x10, 0x60},
		{seq(256, 256), 0xf1, 0xe0}, {seq(256, 16), 0xf0, 0x00}, {seq(16, 256), 0x01, 0xe0}, {seq(144, 144), 0x81, 0x00}, {seq(254, 142), 0xee, 0xfc},
	}
}

// row is a header in a sequence, and its bits, worked out by hand.
type row struct {
	h    api.Head
	s    api.Seq
	bits string
}

// rows are headers of every shape.
func rows() []row {
	return []row{
		{existing(5), little(), "1 101"},
		{existing(0), great(), "1 000"},
		{existing(7), seq(16, 16), "1 111"},
		{key(), little(), "0 1 1 11111111 00000000 00000 00 00 0"},
		{but(key(), func(h *api.Head) { h.Show, h.Refresh, h.Cols, h.Rows, h.NoAdapt = false, 1, 2, 1, true }), great(), "0 0 1 00000001 00000000 00000 10 01 1"},
		{but(key(), func(h *api.Head) { h.Base = 128 }), little(), "0 1 1 11111111 10000000 00000 00 00 0 000000 000000 000000 000000 000 0 000"},
		{but(key(), func(h *api.Head) { h.Deltas[4] = -1 }), little(), "0 1 1 11111111 00000000 0000 1100001 00 00 0 000000 000000 000000 000000 000 0 000"},
		{but(key(), func(h *api.Head) { h.Deltas[0] = 31 }), little(), "0 1 1 11111111 00000000 1011111 0000 00 00 0 000000 000000 000000 000000 000 0 000"},
		{inter(), little(), "0 0 0 00000011 001 010 111 1 100 00000000 00000 00 00 0"},
		{but(inter(), func(h *api.Head) { h.Primary, h.Refs, h.Rows = -1, [3]int{}, 1 }), seq(16, 66), "0 0 0 00000011 000 000 000 0 00000000 00000 00 01 0"},
		{but(inter(), func(h *api.Head) { h.Primary, h.Show, h.Refresh = 0, true, 0 }), little(), "0 1 0 00000000 001 010 111 1 000 00000000 00000 00 00 0"},
		{lossy(inter()), little(), "0 0 0 00000011 001 010 111 1 100 00001001 1000001 1100010 1011110 1111111 1000101 00 00 1 000001 000010 101000 111111 101 0 101"},
		{strong(lossy(key()), 1), great(), "0 1 1 11111111 00001001 1000001 1100010 1011110 1111111 1000101 00 00 1 000001 000010 101000 111111 101 1 01 01 1111 00 0000 11 1110 01 0010 10 101"},
		{api.Head{Key: true, Primary: -1, Base: 255, Sharp: 7, Cdef: true, Damping: 6, Strengths: []api.Strength{{YPri: 8, YSec: 1, UVPri: 4, UVSec: 2}}, Restore: [3]bool{false, true, false}}, little(),
			"0 0 1 00000000 11111111 00000 00 00 0 000000 000000 000000 000000 111 1 11 00 1000 01 0100 10 010"},
		{strong(api.Head{Primary: -1, Deltas: [5]int{0, 0, -5}, Levels: [4]int{32, 16, 8, 4}}, 2), little(),
			"0 0 0 00000000 000 000 000 0 00000000 00 1100101 00 00 00 0 100000 010000 001000 000100 000 1 01 10 1111 00 0000 11 1110 01 0010 10 1101 10 0100 01 1100 11 0110 00 000"},
	}
}

// wrong is bits that are no header of the sequence little, the error and how many of them are read, worked out by hand.
type wrong struct {
	bits string
	e    api.Errno
	used int
}

func wrongs() []wrong {
	return []wrong{
		{"", api.ErrTrunc, 0},
		{"1", api.ErrTrunc, 1},
		{"1 11", api.ErrTrunc, 1},
		{"0 1", api.ErrTrunc, 2},
		{"0 1 1 1111111", api.ErrTrunc, 3},
		{"0 1 0 11111111 11", api.ErrTrunc, 11},
		{"0 1 0 11111111 111 111 00", api.ErrTrunc, 17},
		{"0 1 0 11111111 111 111 111", api.ErrTrunc, 20},
		{"0 1 0 11111111 111 111 111 1 11", api.ErrTrunc, 21},
		{"0 1 1 11111111 00000000 1 000000 0000 00 00 0 00000000000000000000000000000000", api.ErrSyntax, 26}, // a delta that is 0
		{"0 1 1 11111111 00000000 1 100000 0000 00 00 0 00000000000000000000000000000000", api.ErrSyntax, 20}, // one that is no number
		{"0 1 1 11111111 00000000 1 000000", api.ErrSyntax, 26},
		{"0 1 1 11111111 00000000 1 100000", api.ErrSyntax, 20},
		{"0 1 1 11111111 00000000 1 10000", api.ErrTrunc, 20},
		{"0 1 1 11111111 00000000 1 00000", api.ErrTrunc, 20},
		{"0 1 1 11111111 00000001 0000 1 000000 11 11", api.ErrSyntax, 30}, // ahead of Cols
		{"0 1 1 11111111 00000001 0000 1 100000 11 11", api.ErrSyntax, 24},
		{"0 1 1 11111111 00000001 1 000001 1 000000 1 100000", api.ErrSyntax, 33}, // the first one that is wrong
		{"0 1 1 11111111 00000001 1 000001 1 100000 1 000000", api.ErrSyntax, 27},
		{"0 1 1 11111111 00000000 00000 01 00 0", api.ErrLimit, 26},
		{"0 1 1 11111111 00000000 00000 10 00 0", api.ErrLimit, 26},
		{"0 1 1 11111111 00000000 00000 11 00 0", api.ErrLimit, 26},
		{"0 1 1 11111111 00000000 00000 01", api.ErrLimit, 26}, // ahead of the bits that are missing
		{"0 1 1 11111111 00000000 00000 1", api.ErrTrunc, 24},
		{"0 1 1 11111111 00000000 00000 00 01 0", api.ErrLimit, 28},
		{"0 1 1 11111111 00000000 00000 00 10 0", api.ErrLimit, 28},
		{"0 1 1 11111111 00000000 00000 00 11", api.ErrLimit, 28},
		{"0 1 1 11111111 00000000 00000 00 1", api.ErrTrunc, 26},
		{"0 1 1 11111111 00000000 00000 01 01 0", api.ErrLimit, 26},
		{"0 1 1 11111111 00000000 00000 00 00", api.ErrTrunc, 28},
		{"0 1 1 11111111 00000001 00000 00 00 0", api.ErrTrunc, 29},
		{"0 1 1 11111111 00000001 00000 00 00 0 000000 000000 000000 000000 000 0 00", api.ErrTrunc, 59},
		{"0 1 1 11111111 00000001 00000 00 00 0 000000 000000 000000 000000 000 1 0", api.ErrTrunc, 57},
		{"0 1 1 11111111 00000001 00000 00 00 0 000000 000000 000000 000000 000 1 11 0", api.ErrTrunc, 59},
		{"0 1 1 11111111 00000001 00000 00 00 0 000000 000000 000000 000000 000 1 11 01 1111 11 1111 11 1111 11 1111 1", api.ErrTrunc, 83},
	}
}
