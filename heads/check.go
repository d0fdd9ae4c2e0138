package heads

import "zoetrope/api"

// The ends of what a frame header's numbers may be.
const (
	mostRefresh  = 255
	noPrimary    = -1
	mostBase     = 255
	mostDelta    = 31
	mostCut      = 2
	mostLevel    = 63
	mostSharp    = 7
	leastDamping = 3
	mostDamping  = 6
	mostCdefBits = 3
	mostPri      = 15
	mostSec      = 3
)

// Check tells whether a frame header may be, in a sequence.
func Check(h api.Head, s api.Seq) api.Errno {
	if CheckSeq(s) != api.OK || !isExisting(h) && !isOther(h, s) {
		return api.ErrArg
	}
	return api.OK
}

func within(n, least, most int) bool { return n >= least && n <= most }

func isSlot(n int) bool { return within(n, 0, api.Slots-1) }

// isExisting tells whether a header may be that shows a slot; all that it doesn't tell is zero.
func isExisting(h api.Head) bool {
	return h.Existing && isSlot(h.Slot) && !h.Show && !h.Key && h.Refresh == 0 && h.Refs == [3]int{} && h.Primary == 0 &&
		isLossless(h) && h.Cols == 0 && h.Rows == 0 && !h.NoAdapt && isUnfiltered(h)
}

// isOther tells whether the header of a frame that is coded may be.
func isOther(h api.Head, s api.Seq) bool {
	if h.Existing || h.Slot != 0 || !isRefs(h) {
		return false
	}
	if !within(h.Refresh, 0, mostRefresh) || !within(h.Base, 0, mostBase) {
		return false
	}
	for _, d := range h.Deltas {
		if !within(d, -mostDelta, mostDelta) {
			return false
		}
	}
	if !isCut(h.Cols, s.W) || !isCut(h.Rows, s.H) {
		return false
	}
	if isLossless(h) {
		return isUnfiltered(h)
	}
	return isFiltered(h)
}

// isRefs tells whether a frame may begin with what its header says of slots.
func isRefs(h api.Head) bool {
	if h.Key {
		return h.Refs == [3]int{} && h.Primary == noPrimary
	}
	for _, slot := range h.Refs {
		if !isSlot(slot) {
			return false
		}
	}
	return h.Primary == noPrimary || isSlot(h.Primary)
}

// isCut tells whether a side has squares enough to be cut into 2^n tiles.
func isCut(n, side int) bool {
	squares := (side + api.SuperSize - 1) / api.SuperSize
	return within(n, 0, mostCut) && 1<<n <= squares
}

func isLossless(h api.Head) bool { return h.Base == 0 && h.Deltas == [5]int{} }

// isUnfiltered tells whether a header says nothing of filters.
func isUnfiltered(h api.Head) bool {
	return h.Levels == [4]int{} && h.Sharp == 0 && isPlain(h) && h.Restore == [3]bool{}
}

// isPlain tells whether a header says nothing of Cdef.
func isPlain(h api.Head) bool {
	return !h.Cdef && h.Damping == 0 && h.CdefBits == 0 && len(h.Strengths) == 0
}

// isFiltered tells whether what a header says of filters may be.
func isFiltered(h api.Head) bool {
	for _, level := range h.Levels {
		if !within(level, 0, mostLevel) {
			return false
		}
	}
	return within(h.Sharp, 0, mostSharp) && (isPlain(h) || isCdef(h))
}

// isCdef tells whether what a header with Cdef says of it may be.
func isCdef(h api.Head) bool {
	if !h.Cdef || !within(h.Damping, leastDamping, mostDamping) || !within(h.CdefBits, 0, mostCdefBits) {
		return false
	}
	for _, x := range h.Strengths {
		if !within(x.YPri, 0, mostPri) || !within(x.YSec, 0, mostSec) || !within(x.UVPri, 0, mostPri) || !within(x.UVSec, 0, mostSec) {
			return false
		}
	}
	return len(h.Strengths) == 1<<h.CdefBits
}
