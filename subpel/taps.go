package subpel

import (
	"zoetrope/api"
)

const (
	partBits = 4
	parts    = 1 << partBits // of a sample
	many     = 8             // taps
	ahead    = 3             // of which so many weigh what stands ahead of the sample
	whole    = 128           // what all taps at a place are together
)

// regular and smooth are the taps of both kinds, up to the middle between two samples.
var (
	regular = [parts/2 + 1][many]int{
		{0, 0, 0, 128, 0, 0, 0, 0},
		{0, 2, -6, 126, 8, -2, 0, 0},
		{0, 2, -10, 122, 18, -4, 0, 0},
		{0, 2, -12, 116, 28, -8, 2, 0},
		{0, 2, -14, 110, 38, -10, 2, 0},
		{0, 2, -14, 102, 48, -12, 2, 0},
		{0, 2, -16, 94, 58, -12, 2, 0},
		{0, 2, -14, 84, 66, -12, 2, 0},
		{0, 2, -14, 76, 76, -14, 2, 0},
	}
	smooth = [parts/2 + 1][many]int{
		{0, 0, 0, 128, 0, 0, 0, 0},
		{0, 2, 28, 62, 34, 2, 0, 0},
		{0, 0, 26, 62, 36, 4, 0, 0},
		{0, 0, 22, 62, 40, 4, 0, 0},
		{0, 0, 20, 60, 42, 6, 0, 0},
		{0, 0, 18, 58, 44, 8, 0, 0},
		{0, 0, 16, 56, 46, 10, 0, 0},
		{0, -2, 16, 54, 48, 12, 0, 0},
		{0, -2, 14, 52, 52, 14, -2, 0},
	}
)

// Taps are those of a kind of filter at a sixteenth of a sample.
func Taps(kind, at int) ([8]int, api.Errno) {
	if !isKind(kind) || at < 0 || at >= parts {
		return [many]int{}, api.ErrArg
	}
	return tapsOf(kind, at), api.OK
}

func isKind(kind int) bool { return kind >= api.FilterRegular && kind <= api.FilterBilinear }

// tapsOf are the taps of a kind and a place that there are. Behind the middle a place is as far from the next sample as one ahead of it is from the last.
func tapsOf(kind, at int) [many]int {
	if kind == api.FilterBilinear {
		next := whole / parts * at
		return [many]int{ahead: whole - next, ahead + 1: next}
	}
	if at > parts/2 {
		return turned(tapsOf(kind, parts-at))
	}
	if kind == api.FilterSmooth {
		return smooth[at]
	}
	return regular[at]
}

// turned are taps the other way round.
func turned(taps [many]int) [many]int {
	var l [many]int
	for k, tap := range taps {
		l[many-1-k] = tap
	}
	return l
}
