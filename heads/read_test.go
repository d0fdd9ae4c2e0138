package heads_test

import (
	"strings"
	"testing"

	"zoetrope/api"
	"zoetrope/bits"
	"zoetrope/heads"
)

// readAsModel asks for what the model reads of a text.
func readAsModel(t *testing.T, text string, s api.Seq) api.Errno {
	t.Helper()
	h, e, used := modelRead(text, s)
	readIs(t, text, s, h, e, used)
	return e
}

// Headers of every shape by hand, from each place of a byte, with anything behind them (P20.3).
func TestReadByHand(t *testing.T) {
	for _, x := range rows() {
		for _, behind := range []string{"", "0", "1", "10", "011", "1010", "00000", "111111", "1000001", "11111111", "0110100111010011"} {
			text := closed(x.bits)
			readIs(t, text+behind, x.s, x.h, api.OK, len(text))
		}
	}
}

// What is wrong by hand, with what is left in the reader (P20.3).
func TestReadWrong(t *testing.T) {
	for _, x := range wrongs() {
		text := closed(x.bits)
		noRead(t, text, little(), x.e, x.used)
		if x.e != api.ErrTrunc {
			for _, behind := range []string{"0", "1", "0110100111010011"} {
				noRead(t, text+behind, little(), x.e, x.used)
			}
		}
	}
}

// Each of the Deltas that is told not to be 0, and is, or is no number, behind ones that are well (P20.3).
func TestReadDeltas(t *testing.T) {
	for i := range 5 {
		for _, well := range []string{"0", "1000001", "1111111"} {
			ahead := "01" + "1" + "00000000" + "00000000" + strings.Repeat(well, i)
			for _, behind := range []string{"", "0", strings.Repeat("01", 50), strings.Repeat("0", 100)} {
				noRead(t, ahead+"1"+"000000"+behind, great(), api.ErrSyntax, len(ahead)+7)
				noRead(t, ahead+"1"+"100000"+behind, great(), api.ErrSyntax, len(ahead)+1)
			}
			for n := range 6 {
				noRead(t, ahead+"1"+"000000"[:n], great(), api.ErrTrunc, len(ahead)+1)
				noRead(t, ahead+"1"+"100000"[:n], great(), api.ErrTrunc, len(ahead)+1)
			}
		}
	}
}

// Cols and Rows beyond what may be, in sequences of as many squares as there may be (P20.3).
func TestReadCuts(t *testing.T) {
	most := []struct{ side, n int }{{16, 0}, {64, 0}, {66, 1}, {128, 1}, {130, 1}, {192, 1}, {194, 2}, {256, 2}}
	ahead := closed("0 0 1 10101010 00000000 00000")
	for _, across := range most {
		for _, down := range most {
			for cols := range 4 {
				for rows := range 4 {
					text, s := ahead+numeral(2, cols)+numeral(2, rows)+"1", seq(across.side, down.side)
					switch {
					case cols > across.n:
						noRead(t, text, s, api.ErrLimit, 26)
						noRead(t, text[:26], s, api.ErrLimit, 26)
						noRead(t, text[:25], s, api.ErrTrunc, 24)
					case rows > down.n:
						noRead(t, text, s, api.ErrLimit, 28)
						noRead(t, text[:28], s, api.ErrLimit, 28)
						noRead(t, text[:27], s, api.ErrTrunc, 26)
					default:
						readIs(t, text, s, api.Head{Key: true, Refresh: 170, Primary: -1, Cols: cols, Rows: rows, NoAdapt: true}, api.OK, 29)
					}
				}
			}
		}
	}
}

// bothTexts are headers by hand and drawn ones, with their sequences.
func bothTexts(d *draws, n int) []row {
	l := rows()
	for range n {
		s := d.seq()
		h := d.head(s)
		l = append(l, row{h, s, modelText(h)})
	}
	return l
}

// Headers that are cut off at each bit: the reader stands behind the last number that is whole (P20.3).
func TestReadCutOff(t *testing.T) {
	d := draws(31)
	for _, x := range bothTexts(&d, 1500) {
		text := closed(x.bits)
		for n := range len(text) {
			if e := readAsModel(t, text[:n], x.s); e != api.ErrTrunc {
				t.Fatalf("%s cut off at %d: %d", text, n, e)
			}
		}
		readIs(t, text, x.s, x.h, api.OK, len(text))
	}
}

// Headers of which one bit is turned: another header, or an error (P20.3).
func TestReadTurned(t *testing.T) {
	d := draws(32)
	told := map[api.Errno]int{}
	for _, x := range bothTexts(&d, 1500) {
		text := []byte(closed(x.bits) + d.text(d.below(200)))
		for i := range text {
			text[i] ^= 1
			told[readAsModel(t, string(text), x.s)]++
			text[i] ^= 1
		}
	}
	for _, e := range []api.Errno{api.OK, api.ErrTrunc, api.ErrSyntax, api.ErrLimit} {
		if told[e] < 100 {
			t.Errorf("%d was told %d times", e, told[e])
		}
	}
}

// Any bits at all: mostly noughts, mostly ones, and mixed ones (P20.3).
func TestReadAnything(t *testing.T) {
	d := draws(33)
	for n := 1; n < 13; n++ {
		for v := range 1 << n {
			readAsModel(t, numeral(n, v), little())
		}
	}
	for range 40000 {
		text := []byte(d.text(d.below(240)))
		few := d.below(4)
		for i := range text {
			if few > 0 && !d.is(1+few*3) {
				text[i] = '0'
			}
		}
		readAsModel(t, string(text), d.seq())
		if len(text) > 2 {
			text[0], text[2] = '0', '1'
			readAsModel(t, string(text), d.seq())
		}
	}
}

// One header behind the other, up to what is none (P20.3).
func TestReadMany(t *testing.T) {
	d := draws(34)
	l := bothTexts(&d, 200)
	all := ""
	for _, x := range l {
		all += closed(x.bits)
	}
	all += "110"
	r, left := standing(all), len(all)
	for _, x := range l {
		h, e := heads.Read(r, x.s)
		left -= len(closed(x.bits))
		if !same(h, x.h) || e != api.OK || r.Left() != left {
			t.Fatalf("Read: %+v, %d, %d left; want %+v, %d", h, e, r.Left(), x.h, left)
		}
	}
	for range 3 {
		if h, e := heads.Read(r, little()); !same(h, api.Head{}) || e != api.ErrTrunc || r.Left() > 2 {
			t.Fatalf("Read of 110: %+v, %d, %d left", h, e, r.Left())
		}
	}
}

// Readers that are none, and sequences that may not be: of both the reader counts first; of the other one nothing is read (P20.3).
func TestReadNothing(t *testing.T) {
	bad := []api.Seq{{}, seq(15, 16), seq(16, 15), seq(14, 16), seq(16, 258), seq(258, 16), seq(-64, 64), seq(64, 1<<30), seq(1<<30, 64)}
	for _, r := range []*bits.Reader{nil, {}} {
		for _, s := range append(bad, little(), great()) {
			if h, e := heads.Read(r, s); !same(h, api.Head{}) || e != api.ErrNil {
				t.Fatalf("Read(none, %v): %+v, %d", s, h, e)
			}
		}
	}
	for _, s := range bad {
		noRead(t, "", s, api.ErrArg, 0)
		for _, x := range rows() {
			noRead(t, closed(x.bits), s, api.ErrArg, 0)
		}
		for _, x := range wrongs() {
			noRead(t, closed(x.bits), s, api.ErrArg, 0)
		}
	}
}

// A reader without bytes is one (P20.3).
func TestReadNoBytes(t *testing.T) {
	for _, b := range [][]byte{nil, {}} {
		if h, e := heads.Read(bits.New(b), little()); !same(h, api.Head{}) || e != api.ErrTrunc {
			t.Fatalf("Read of no bytes: %+v, %d", h, e)
		}
	}
}
