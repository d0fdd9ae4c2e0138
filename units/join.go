package units

import (
	"zoetrope/api"
	"zoetrope/bits"
)

// Join puts pieces together, one behind the other.
func Join(l ...api.Obu) ([]byte, api.Errno) {
	var b []byte
	for _, o := range l {
		if !isType(o.Type) {
			return nil, api.ErrArg
		}
		if len(o.Body) > api.MaxUnit {
			return nil, api.ErrLimit
		}
		b = append(b, head(o)...)
		b = append(b, o.Body...)
	}
	return b, api.OK
}

// head is what stands ahead of a body; whoever calls has seen that the piece may be.
func head(o api.Obu) []byte {
	w := bits.Write()
	w.Fixed(uint32(o.Type*typeUnit), 8)
	w.Leb(uint32(len(o.Body)))
	return w.Bytes()
}
