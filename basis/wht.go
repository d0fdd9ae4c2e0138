package basis

// Nothing is lost, although a bit is shifted out: each way's last steps are taken back by the other's first ones, and e is the same in both. Both come to the same numbers, Wht being its own inverse; they stand here as the document tells them, so that they can be held against it.

func inverseWht(in []int) []int {
	a, c, d, b := in[0], in[1], in[2], in[3]
	a += c
	d -= b
	e := (a - d) >> 1
	b = e - b
	c = e - c
	a -= b
	d += c
	return []int{a, b, c, d}
}

func forwardWht(in []int) []int {
	a, b, c, d := in[0], in[1], in[2], in[3]
	a += b
	d -= c
	e := (a - d) >> 1
	b = e - b
	c = e - c
	a -= c
	d += b
	return []int{a, c, d, b}
}
