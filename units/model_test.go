package units_test

import (
	"bytes"
	"io"
	"testing"

	"zoetrope/api"
)

// modelSize reads how many bytes a body has, byte by byte.
func modelSize(in *bytes.Reader) (uint64, api.Errno) {
	var sum uint64
	for i, weight := range []uint64{1, 128, 128 * 128, 128 * 128 * 128, 128 * 128 * 128 * 128} {
		c, err := in.ReadByte()
		if err != nil {
			return 0, api.ErrTrunc
		}
		if i == 4 && c > 15 || i > 0 && c == 0 {
			return 0, api.ErrSyntax
		}
		sum += weight * uint64(c%128)
		if c < 128 {
			break
		}
	}
	return sum, api.OK
}

// modelPiece reads a piece, in the order of the chapter's words.
func modelPiece(in *bytes.Reader) (api.Obu, api.Errno) {
	first, err := in.ReadByte()
	if err != nil {
		return api.Obu{}, api.ErrTrunc
	}
	kind, ok := map[byte]int{16: 1, 32: 2, 48: 3}[first]
	if !ok {
		return api.Obu{}, api.ErrSyntax
	}
	n, e := modelSize(in)
	if e != api.OK {
		return api.Obu{}, e
	}
	if n > most {
		return api.Obu{}, api.ErrLimit
	}
	if n > uint64(in.Len()) {
		return api.Obu{}, api.ErrTrunc
	}
	body := make([]byte, n)
	if _, err := io.ReadFull(in, body); err != nil {
		return api.Obu{}, api.ErrTrunc
	}
	return api.Obu{Type: kind, Body: body}, api.OK
}

// model is a stream's pieces, and where the first one that can't be read begins, with its error.
func model(b []byte) ([]api.Obu, int, api.Errno) {
	in := bytes.NewReader(b)
	var l []api.Obu
	for {
		at := len(b) - in.Len()
		if in.Len() == 0 {
			return l, at, api.OK
		}
		o, e := modelPiece(in)
		if e != api.OK {
			return l, at, e
		}
		l = append(l, o)
	}
}

// asModel asks for what the model tells.
func asModel(t *testing.T, b []byte) {
	t.Helper()
	l, at, e := model(b)
	splitIs(t, b, at, e, l...)
}

// All streams of up to two bytes (P19.1).
func TestShortStreams(t *testing.T) {
	asModel(t, nil)
	for a := range 256 {
		asModel(t, []byte{byte(a)})
		for b := range 256 {
			asModel(t, []byte{byte(a), byte(b)})
		}
	}
}

// All streams of three to six bytes that are of those that matter (P19.1).
func TestStreamsOfFewBytes(t *testing.T) {
	some := []byte{0, 1, 2, 8, 15, 16, 32, 48, 64, 127, 128, 129, 255}
	few := []byte{0, 1, 2, 16, 32, 48, 128}
	for n, letters := range map[int][]byte{3: some, 4: some, 5: few, 6: few} {
		turns := 1
		for range n {
			turns *= len(letters)
		}
		for i := range turns {
			b := make([]byte, n)
			for at := range b {
				b[at] = letters[i%len(letters)]
				i /= len(letters)
			}
			asModel(t, b)
		}
	}
}

// Every size's bytes, ahead of nothing and of a few bytes (P19.1).
func TestSizesOfManyBytes(t *testing.T) {
	d := draws(193)
	for range 40000 {
		b := []byte{byte(16 * (1 + d.below(3)))}
		for range d.below(6) {
			b = append(b, byte(128+d.one(0, 0, 1, 127, d.below(128))))
		}
		b = append(b, byte(d.one(0, 1, 7, 8, 9, 15, 16, 127, d.below(256))))
		asModel(t, b)
		asModel(t, append(b, d.body(d.below(300))...))
	}
}

// Streams of any pieces, whole ones, cut ones, turned ones and mixed ones (P19.1).
func TestStreamsOfAnyPieces(t *testing.T) {
	d := draws(194)
	for range 4000 {
		b := stream(d.pieces(d.below(12))...)
		asModel(t, b)
		asModel(t, b[:d.below(len(b)+1)])
		if len(b) > 0 {
			for range 8 {
				b[d.below(len(b))] = byte(d.one(0, 16, 32, 48, 128, 255, d.below(256)))
				asModel(t, b)
			}
		}
		asModel(t, d.body(d.below(40)))
	}
}
