package quant_test

import (
	"testing"
)

// The chapter's rows of values (P9.2).
func TestValueExamples(t *testing.T) {
	c := calls()[1]
	c.answers(t, 14, 7, 4, 98)
	c.answers(t, -14, 7, 4, -98)
	c.answers(t, 29, 7, 32, 101)
	c.answers(t, 57, 7, 64, 99)
	c.answers(t, 1<<20, 16, 4, 0)
	c.answers(t, 40000, 1, 4, 32767)
	c.answers(t, -40000, 1, 4, -32768)
	c.refused(t, 0, 1, 5)
}

// Products of great sizes are brought towards 0, below 0 too (P9.2).
func TestValuesRounded(t *testing.T) {
	c := calls()[1]
	for _, x := range []struct{ level, step, size, want int }{
		{0, 1, 4, 0}, {0, 1 << 15, 64, 0}, {1, 1, 4, 1}, {1, 1, 8, 1}, {1, 1, 16, 1}, {1, 1, 32, 0}, {1, 1, 64, 0},
		{2, 1, 32, 1}, {3, 1, 32, 1}, {1, 3, 32, 1}, {4, 1, 32, 2}, {3, 1, 64, 0}, {4, 1, 64, 1}, {7, 1, 64, 1}, {1, 7, 64, 1}, {8, 1, 64, 2},
		{5, 5, 4, 25}, {5, 5, 32, 12}, {5, 5, 64, 6}, {100, 100, 16, 10000}, {100, 100, 32, 5000}, {100, 100, 64, 2500},
	} {
		c.answers(t, x.level, x.step, x.size, x.want)
		c.answers(t, -x.level, x.step, x.size, -x.want)
	}
}

// Values at both ends of 16 bits, just within and just beyond, of each scale (P9.2).
func TestValuesClipped(t *testing.T) {
	c := calls()[1]
	for _, x := range []struct{ level, step, size, want, minus int }{
		{32766, 1, 4, 32766, -32766}, {32767, 1, 4, 32767, -32767}, {32768, 1, 4, 32767, -32768}, {32769, 1, 4, 32767, -32768},
		{1, 32767, 8, 32767, -32767}, {1, 32768, 8, 32767, -32768}, {3, 32768, 16, 32767, -32768},
		{65533, 1, 32, 32766, -32766}, {65534, 1, 32, 32767, -32767}, {65535, 1, 32, 32767, -32767}, {65536, 1, 32, 32767, -32768}, {65537, 1, 32, 32767, -32768}, {65538, 1, 32, 32767, -32768},
		{131067, 1, 64, 32766, -32766}, {131068, 1, 64, 32767, -32767}, {131071, 1, 64, 32767, -32767}, {131072, 1, 64, 32767, -32768}, {131076, 1, 64, 32767, -32768},
		{end, 1, 4, 32767, -32768}, {end, 1, 32, 32767, -32768}, {end, 1, 64, 32767, -32768}, {end, 15, 64, 32767, -32768}, {end - 1, 16, 64, 32767, -32768},
	} {
		c.answers(t, x.level, x.step, x.size, x.want)
		c.answers(t, -x.level, x.step, x.size, x.minus)
	}
}

// Of products beyond 24 bits the lower ones count alone, beyond 32 bits too; that comes ahead of the scale and of the sign (P9.2).
func TestValuesBeyond24Bits(t *testing.T) {
	c := calls()[1]
	for _, x := range []struct {
		level, step int
		want        [3]int // of sizes up to 16, of 32, of 64
	}{
		{end, 16, [3]int{0, 0, 0}}, {512, 1 << 15, [3]int{0, 0, 0}}, {end, 1 << 15, [3]int{0, 0, 0}},
		{986896, 17, [3]int{16, 8, 4}},              // 2^24 + 16
		{1016801, 33, [3]int{1, 0, 0}},              // 2^25 + 1
		{513, 32767, [3]int{32255, 16127, 8063}},    // 2^24 + 32255
		{1048065, 2049, [3]int{1537, 768, 384}},     // 2^31 + 1537
		{1048321, 4097, [3]int{3841, 1920, 960}},    // 2^32 + 3841
		{1048449, 8193, [3]int{8065, 4032, 2016}},   // 2^33 + 8065
		{1048513, 16385, [3]int{16321, 8160, 4080}}, // 2^34 + 16321
	} {
		for i, want := range []int{x.want[0], x.want[0], x.want[0], x.want[1], x.want[2]} {
			c.answers(t, x.level, x.step, sizes()[i], want)
			c.answers(t, -x.level, x.step, sizes()[i], -want)
		}
	}
	for _, size := range sizes() {
		for _, x := range [][2]int{{986895, 17}, {end, 15}, {511, 1 << 15}, {end, 32767}, {end - 1, 1 << 15}, {end - 1, 32767}} { // their lower bits come to more than 16 bits have
			c.answers(t, x[0], x[1], size, 32767)
			c.answers(t, -x[0], x[1], size, -32768)
		}
	}
	c.answers(t, 513, 1<<15, 16, 32767) // 2^24 + 2^15
	c.answers(t, -513, 1<<15, 16, -32768)
	c.answers(t, -513, 1<<15, 32, -16384)
	c.answers(t, -513, 1<<15, 64, -8192)
}
