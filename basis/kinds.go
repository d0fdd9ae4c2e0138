package basis

import (
	"zoetrope/api"
)

// row is how many numbers a row has. What a kind weighs in it is told by the kind's method.
type row int

// transform is a kind's, of rows of this length; a zero one, where there is no such kind.
func (n row) transform(kind int) transform {
	switch kind {
	case api.Dct:
		return transform{longest: 64, weigh: n.dct}
	case api.Adst:
		return transform{longest: 16, weigh: n.adst}
	case api.Ident:
		return transform{longest: 32, weigh: n.ident}
	case api.Wht:
		return transform{longest: 4}
	}
	return transform{}
}

func (n row) dct(k, i int) int {
	if k == 0 {
		return Cos(32)
	}
	return Cos((2*i + 1) * k * 64 / int(n))
}

func (n row) adst(k, i int) int {
	return Cos(64 - (2*i+1)*(2*k+1)*32/int(n))
}

// ident weighs so much that it makes rows as much greater as the others do.
func (n row) ident(k, i int) int {
	if k != i {
		return 0
	}
	switch n {
	case 4:
		return 5793
	case 8:
		return 8192
	case 16:
		return 11586
	}
	return 16384
}
