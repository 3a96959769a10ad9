// Package field: the fields that frames and records are made of, as bytes.
package field

import "quotaledger/api"

// How many bytes a field has.
const (
	ByteSize   = 1
	KeySize    = len(api.Key{})
	NumberSize = 8
)

// Fields reads one field behind the other from bytes that were found to have them all.
type Fields struct {
	left []byte
}

// Of reads from the first byte on.
func Of(b []byte) *Fields { return &Fields{left: b} }

// Byte is the next field, of one byte.
func (f *Fields) Byte() uint8 {
	v := f.left[0]
	f.left = f.left[ByteSize:]
	return v
}

// Number is the next field, of eight bytes, the highest first.
func (f *Fields) Number() uint64 {
	v := uint64(0)
	for _, c := range f.left[:NumberSize] {
		v = v<<8 | uint64(c)
	}
	f.left = f.left[NumberSize:]
	return v
}

// Key is the next field.
func (f *Fields) Key() api.Key {
	var k api.Key
	f.left = f.left[copy(k[:], f.left):]
	return k
}

// Policy is the next three fields: its Kind, X, Y.
func (f *Fields) Policy() api.Policy {
	kind := f.Byte()
	x := f.Number()
	return api.Policy{Kind: kind, X: x, Y: f.Number()}
}

// AppendNumber puts a number behind the bytes.
func AppendNumber(b []byte, v uint64) []byte {
	for shift := 8 * (NumberSize - 1); shift >= 0; shift -= 8 {
		b = append(b, uint8(v>>shift))
	}
	return b
}

// AppendPolicy puts a policy's three fields behind the bytes.
func AppendPolicy(b []byte, p api.Policy) []byte {
	return AppendNumber(AppendNumber(append(b, p.Kind), p.X), p.Y)
}
