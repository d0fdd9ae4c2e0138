package units

import (
	"bytes"

	"zoetrope/api"
	"zoetrope/bits"
)

// mostLeb is how many bytes a leb has at most.
const mostLeb = 5

// Split cuts a stream into pieces, up to the first one that can't be read; it tells where that one begins, and its error.
func Split(b []byte) ([]api.Obu, int, api.Errno) {
	var l []api.Obu
	at, err := 0, api.OK
read:
	for at < len(b) {
		kind := int(b[at] / typeUnit)
		size, n, e := length(b[at+1:])
		body := b[at+1+n:]
		switch {
		case b[at]%typeUnit != 0 || !isType(kind):
			err = api.ErrSyntax
			break read
		case e != api.OK:
			err = e
			break read
		case size > api.MaxUnit:
			err = api.ErrLimit
			break read
		case int(size) > len(body):
			err = api.ErrTrunc
			break read
		}
		l = append(l, api.Obu{Type: kind, Body: bytes.Clone(body[:size])})
		at += 1 + n + int(size)
	}
	return l, at, err
}

// length is how many bytes a body has, and in how many bytes that is said.
func length(b []byte) (uint32, int, api.Errno) {
	said := b[:min(len(b), mostLeb)] // a reader copies what it is handed: not all that is left, for each piece again
	r := bits.New(said)
	v, err := r.Leb()
	return v, len(said) - r.Left()/8, err
}
