package basis

const (
	unitBits = 12
	unit     = 1 << unitBits // a cosine of 1
	circle   = 256           // parts
)

// quarter is the cosines of a quarter of a circle, which all others are made of.
var quarter = [circle/4 + 1]int{
	4096, 4095, 4091, 4085, 4076, 4065, 4052, 4036, 4017, 3996, 3973, 3948, 3920, 3889, 3857, 3822,
	3784, 3745, 3703, 3659, 3612, 3564, 3513, 3461, 3406, 3349, 3290, 3229, 3166, 3102, 3035, 2967,
	2896, 2824, 2751, 2675, 2598, 2520, 2440, 2359, 2276, 2191, 2106, 2019, 1931, 1842, 1751, 1660,
	1567, 1474, 1380, 1285, 1189, 1092, 995, 897, 799, 700, 601, 501, 401, 301, 201, 101,
	0,
}

// Cos is a cosine, times 4096, of parts of a circle of 256. The parts are brought into one turn by their lowest bits, which is right below 0, too, and of the least int, whose negative there is not.
func Cos(j int) int {
	j &= circle - 1
	j = min(j, circle-j)
	if j > circle/4 {
		return -quarter[circle/2-j]
	}
	return quarter[j]
}
