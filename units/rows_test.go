package units_test

import (
	"slices"

	"zoetrope/api"
)

// row is a stream and its pieces, worked out by hand.
type row struct {
	b []byte
	l []api.Obu
}

// rows are one piece of each type, and many of all.
func rows() []row {
	l := []row{
		{[]byte{16, 0}, []api.Obu{seq()}},
		{[]byte{32, 0}, []api.Obu{unit()}},
		{[]byte{48, 0}, []api.Obu{frame()}},
		{[]byte{16, 3, 1, 2, 3}, []api.Obu{seq(1, 2, 3)}},
		{[]byte{32, 1, 255}, []api.Obu{unit(255)}},      // a body that no temporal unit may have
		{[]byte{48, 2, 48, 2}, []api.Obu{frame(48, 2)}}, // one that looks like a piece
		{[]byte{48, 0, 32, 1, 9, 16, 2, 0, 0, 16, 0, 32, 0, 32, 0, 48, 1, 48}, []api.Obu{frame(), unit(9), seq(0, 0), seq(), unit(), unit(), frame(48)}},
	}
	var many row
	for i := range 50000 {
		many.b = append(many.b, 16*byte(1+i%3), 1, byte(i))
		many.l = append(many.l, api.Obu{Type: 1 + i%3, Body: []byte{byte(i)}})
	}
	return append(l, many)
}

// size is how many bytes a body may have, and how that is said.
type size struct {
	n   int
	how []byte
}

// sizes are at the edges of how they are said, and between.
func sizes() []size {
	return []size{
		{0, []byte{0}}, {1, []byte{1}}, {2, []byte{2}}, {100, []byte{100}}, {126, []byte{126}}, {127, []byte{127}},
		{128, []byte{128, 1}}, {129, []byte{129, 1}}, {200, []byte{200, 1}}, {255, []byte{255, 1}}, {256, []byte{128, 2}}, {300, []byte{172, 2}}, {16382, []byte{254, 127}}, {16383, []byte{255, 127}},
		{16384, []byte{128, 128, 1}}, {16385, []byte{129, 128, 1}}, {65535, []byte{255, 255, 3}}, {65536, []byte{128, 128, 4}}, {1<<21 - 1, []byte{255, 255, 127}},
		{1 << 21, []byte{128, 128, 128, 1}}, {1<<21 + 1, []byte{129, 128, 128, 1}},
	}
}

// rowsOfSizes are bodies of each of these sizes, of each type, alone and between others.
func rowsOfSizes(from int) []row {
	d := draws(from)
	var l []row
	for _, x := range sizes() {
		body := d.body(x.n)
		for _, kind := range types() {
			b := slices.Concat([]byte{byte(16 * kind)}, x.how, body)
			o := api.Obu{Type: kind, Body: body}
			l = append(l, row{b, []api.Obu{o}}, row{slices.Concat([]byte{48, 1, 7}, b, []byte{32, 0}), []api.Obu{frame(7), o, unit()}})
		}
	}
	return l
}
