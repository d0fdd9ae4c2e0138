package txfm_test

import (
	"testing"

	"zoetrope/api"
	"zoetrope/txfm"
)

// answers asks a call for a block.
func answers(t *testing.T, w way, s shape, in, want []int) {
	t.Helper()
	same(t, w, s, must(t, w, s, in), want)
}

// The chapter's examples that answer blocks (P8.2, P8.3).
func TestExamples(t *testing.T) {
	inverse, forward := ways()[0], ways()[1]
	answers(t, forward, shape{4, api.TxDct}, alike(16, 10), single(16, 0, 316))
	answers(t, inverse, shape{4, api.TxDct}, single(16, 0, 320), alike(16, 10))
	answers(t, inverse, shape{4, api.TxDct}, single(16, 0, 160), alike(16, 5))
	answers(t, inverse, shape{4, api.TxWht}, single(16, 0, 4), alike(16, 1))
	answers(t, forward, shape{4, api.TxWht}, single(16, 0, 1), single(16, 0, 1))
	answers(t, forward, shape{4, api.TxWht}, alike(16, 3), single(16, 0, 12))
}

// The chapter's examples that answer no blocks (P8.1, P8.2, P8.3).
func TestOtherExamples(t *testing.T) {
	for size, want := range map[int]int{4: 10, 32: 2, 64: 1, 5: 0} {
		if l := txfm.Types(size); len(l) != want || want > 0 && l[0] != 0 || want == 2 && l[1] != 8 {
			t.Errorf("Types(%d): %v", size, l)
		}
	}
	if side, e := txfm.Side(64); side != 32 || e != api.OK {
		t.Errorf("Side(64): %d, %d", side, e)
	}
	if side, e := txfm.Side(5); side != 0 || e != api.ErrArg {
		t.Errorf("Side(5): %d, %d", side, e)
	}
	inverse, forward := ways()[0], ways()[1]
	refused(t, inverse, shape{8, 9}, make([]int, 64), api.ErrType)
	refused(t, inverse, shape{64, 1}, make([]int, 1024), api.ErrType)
	refused(t, inverse, shape{4, 10}, make([]int, 16), api.ErrType)
	refused(t, inverse, shape{4, 0}, make([]int, 15), api.ErrArg)
	refused(t, forward, shape{4, 0}, single(16, 0, 256), api.ErrArg)
	refused(t, inverse, shape{5, 99}, nil, api.ErrArg)
}

// Inverse by hand, where a number falls between two behind its row or behind its column: to the nearest one, up from the middle, below 0, too. What stands behind each: the number behind its row, brought down, behind its column, brought down (P8.2).
func TestInverseByHand(t *testing.T) {
	for _, x := range []struct{ size, kind, v, want int }{
		{4, api.TxDct, 16, 1},     // 11 11 8 0.5
		{4, api.TxDct, -16, 0},    // -11 -11 -8 -0.5
		{4, api.TxDct, 14, 0},     // 10 10 7 0.44
		{4, api.TxDct, -17, 0},    // -12 -12 -8 -0.5
		{4, api.TxDct, -28, -1},   // -20 -20 -14 -0.88
		{8, api.TxDct, 30, 1},     // 21 10.5 8 0.5
		{8, api.TxDct, -30, 0},    // -21 -10.5 -7 -0.44
		{8, api.TxDct, 28, 0},     // 20 10 7 0.44
		{8, api.TxDct, -58, -1},   // -41 -20.5 -14 -0.88
		{16, api.TxDct, 59, 1},    // 42 10.5 8 0.5
		{16, api.TxDct, -59, 0},   // -42 -10.5 -7 -0.44
		{16, api.TxDct, 58, 0},    // 41 10.25 7 0.44
		{16, api.TxDct, -61, 0},   // -43 -10.75 -8 -0.5
		{32, api.TxDct, 59, 1},    // as of 16
		{32, api.TxDct, -59, 0},   // as of 16
		{32, api.TxDct, 58, 0},    // as of 16
		{32, api.TxDct, 256, 2},   // 181 45.25 32 2
		{64, api.TxDct, 59, 1},    // as of 16
		{64, api.TxDct, -59, 0},   // as of 16
		{64, api.TxDct, 58, 0},    // as of 16
		{64, api.TxDct, -256, -2}, // -181 -45.25 -32 -2
	} {
		s := shape{x.size, x.kind}
		n := kept(x.size) * kept(x.size)
		answers(t, ways()[0], s, single(n, 0, x.v), alike(x.size*x.size, x.want))
	}
}

// Ident leaves each number at its place; behind its row it is clipped (P8.2).
func TestInverseIdentByHand(t *testing.T) {
	for _, x := range []struct{ size, v, want int }{
		{4, 4, 1},           // 6 6 8 0.5
		{4, -4, 0},          // -6 -6 -8 -0.5
		{4, 3, 0},           // 4 4 6 0.38
		{4, -5, -1},         // -7 -7 -10 -0.63
		{4, 32767, 2896},    // 46342 32767 46342 2896.4
		{4, -32768, -2896},  // -46344 -32768 -46344 -2896.5
		{8, 4, 1},           // 8 4 8 0.5
		{8, -4, 0},          // -8 -4 -8 -0.5
		{8, 32767, 4096},    // 65534 32767 65534 4095.9
		{16, 5, 1},          // 14 3.5 11 0.69
		{16, 32767, 4096},   // 92686 23171.5 65542 4096.4
		{32, 2, 1},          // 8 2 8 0.5
		{32, -2, 0},         // -8 -2 -8 -0.5
		{32, 32767, 8192},   // 131068 32767 131068 8191.75
		{32, -32768, -8192}, // -131072 -32768 -131072 -8192
	} {
		n := x.size * x.size
		for _, at := range []int{0, 1, x.size, n/2 + 3, n - 1} {
			answers(t, ways()[0], shape{x.size, api.TxIdent}, single(n, at, x.v), single(n, at, x.want))
		}
	}
}

// Forward by hand, of blocks whose differences are all alike. What stands behind each: the number behind its column, behind its row, and brought to the measure (P8.3).
func TestForwardByHand(t *testing.T) {
	for _, x := range []struct{ size, v, want int }{
		{4, 1, 32},         // 3 8 32
		{4, -255, -8156},   // -721 -2039 -8156
		{8, 1, 68},         // 6 34 68
		{8, -1, -68},       // -6 -34 -68
		{16, 1, 124},       // 11 124
		{16, 255, 32637},   // 2885 32637
		{32, 2, 255},       // 45 1018 254.5
		{32, -2, -254},     // -45 -1018 -254.5
		{32, 1, 130},       // 23 520 130
		{64, 7, 897},       // 317 14344 896.5
		{64, -2, -254},     // -90 -4072 -254.5
		{64, 3, 385},       // 136 6154 384.6
		{64, 1, 127},       // 45 2036 127.25
		{64, -7, -896},     // -317 -14344 -896.5
		{64, -128, -16380}, // -5792 -262088 -16380.5
	} {
		n := kept(x.size) * kept(x.size)
		answers(t, ways()[1], shape{x.size, api.TxDct}, alike(x.size*x.size, x.v), single(n, 0, x.want))
	}
}

// One number of a block of noughts, at each place, at both ends and between, of every size and kind: it tells which row and which column it stands in, and by which kind each is turned (P8.2, P8.3).
func TestEachPlace(t *testing.T) {
	d := draws(1)
	for _, s := range shapes() {
		for _, w := range ways() {
			n := w.many(s.size)
			for at := range n {
				check(t, w, s, single(n, at, w.most))
				check(t, w, s, single(n, at, -w.most))
				if s.size <= 16 {
					check(t, w, s, single(n, at, d.upTo(1, 255)[0]))
				}
			}
		}
	}
}

// Blocks of many numbers, some of them full of noughts, of small numbers, of numbers about 16 bits, or at both ends (P8.2, P8.3).
func TestMixedBlocks(t *testing.T) {
	d := draws(2)
	for _, s := range shapes() {
		for _, w := range ways() {
			n := w.many(s.size)
			for range 4 + 256/s.size {
				check(t, w, s, d.among(n, 0, 0, 0, 0, 0, 0, 0, 1, -1, 9, -9, 200, -200))
				check(t, w, s, d.among(n, w.most, -w.most))
				check(t, w, s, d.among(n, w.most, 0, -w.most))
				check(t, w, s, d.upTo(n, w.most))
				for _, end := range []int{1, 2, 3, 30, 255} {
					check(t, w, s, d.upTo(n, end))
				}
			}
		}
		n := kept(s.size) * kept(s.size)
		for _, end := range []int{500, 4000, 20000, 32767, 40000, 300000} {
			check(t, ways()[0], s, d.upTo(n, end))
		}
		check(t, ways()[0], s, d.among(n, 32766, 32767, 32768, -32767, -32768, -32769))
	}
}
