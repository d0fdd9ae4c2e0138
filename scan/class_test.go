package scan_test

import (
	"testing"

	"zoetrope/api"
	"zoetrope/scan"
)

// classIs asks Class for just this.
func classIs(t *testing.T, end, class, bits, extra int) {
	t.Helper()
	if c, n, v, e := scan.Class(end); c != class || n != bits || v != extra || e != api.OK {
		t.Errorf("Class(%d): %d, %d, %d, %d, want %d, %d, %d", end, c, n, v, e, class, bits, extra)
	}
}

// The chapter's examples, and both ends of each class (P10.2).
func TestChosenClasses(t *testing.T) {
	for _, x := range [][4]int{
		{1, 0, 0, 0}, {2, 1, 0, 0}, {3, 2, 1, 0}, {4, 2, 1, 1}, {5, 3, 2, 0}, {6, 3, 2, 1}, {7, 3, 2, 2}, {8, 3, 2, 3}, {9, 4, 3, 0}, {16, 4, 3, 7},
		{17, 5, 4, 0}, {32, 5, 4, 15}, {33, 6, 5, 0}, {64, 6, 5, 31}, {65, 7, 6, 0}, {128, 7, 6, 63}, {129, 8, 7, 0}, {256, 8, 7, 127},
		{257, 9, 8, 0}, {512, 9, 8, 255}, {513, 10, 9, 0}, {514, 10, 9, 1}, {1023, 10, 9, 510}, {1024, 10, 9, 511},
	} {
		classIs(t, x[0], x[1], x[2], x[3])
	}
}

// Every end, told off in rising order: so many of each class (P10.2).
func TestEveryClass(t *testing.T) {
	classIs(t, 1, 0, 0, 0)
	classIs(t, 2, 1, 0, 0)
	end := 3
	for class, many := 2, 2; class <= 10; class, many = class+1, many*2 {
		for extra := range many {
			classIs(t, end, class, class-1, extra)
			end++
		}
	}
	if end != 1025 {
		t.Errorf("%d ends", end-1)
	}
}

// Ends that are none: just beyond both ends of them, and far beyond (P10.2).
func TestWrongEnds(t *testing.T) {
	for _, end := range append(far(), 0, -1, -2, -3, -4, -512, -1023, -1024, -1025, 1025, 1026, 1027, 2047, 2048, 2049, 4096, 1<<16+1) {
		if c, n, v, e := scan.Class(end); c != 0 || n != 0 || v != 0 || e != api.ErrArg {
			t.Errorf("Class(%d): %d, %d, %d, %d", end, c, n, v, e)
		}
	}
}

// Classes rise with ends, none of them left out; within a class the further bits' number does (P10.5).
func TestClassesRise(t *testing.T) {
	before, last := -1, 0
	for end := 1; end <= 1024; end++ {
		class, _, extra, e := scan.Class(end)
		if e != api.OK || class != before && (class != before+1 || extra != 0) || class == before && extra != last+1 {
			t.Errorf("Class(%d): %d, with %d, behind %d, with %d", end, class, extra, before, last)
		}
		before, last = class, extra
	}
	if before != 10 {
		t.Errorf("the last class is %d", before)
	}
}

// An end is told by its class and its further bits, and how many of these there are by the class (P10.5).
func TestEndsAreTold(t *testing.T) {
	type told struct{ class, extra int }
	ends, many := map[told]int{}, map[int]int{}
	for end := 1; end <= 1024; end++ {
		class, bits, extra, e := scan.Class(end)
		if e != api.OK || extra < 0 || extra >= 1<<bits {
			t.Errorf("Class(%d): %d bits, %d, %d", end, bits, extra, e)
		}
		if other := ends[told{class, extra}]; other != 0 {
			t.Errorf("%d and %d are told alike", other, end)
		}
		if n, ok := many[class]; ok && n != bits {
			t.Errorf("class %d has %d further bits, and %d", class, n, bits)
		}
		ends[told{class, extra}], many[class] = end, bits
		if back := unclassed(class, extra); back != end {
			t.Errorf("%d is told as %d", end, back)
		}
	}
}

// unclassed is the end that is told.
func unclassed(class, extra int) int {
	if class == 0 {
		return 1
	}
	return 1<<(class-1) + 1 + extra
}
