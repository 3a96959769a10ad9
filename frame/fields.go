package frame

import "quotaledger/api"

// fields reads one field behind the other from a body that was found to be whole.
type fields struct {
	left []byte
}

func (f *fields) small() uint8 {
	v := f.left[0]
	f.left = f.left[byteSize:]
	return v
}

func (f *fields) number() uint64 {
	v := uint64(0)
	for _, c := range f.left[:numberSize] {
		v = v<<8 | uint64(c)
	}
	f.left = f.left[numberSize:]
	return v
}

func (f *fields) key() api.Key {
	var k api.Key
	f.left = f.left[copy(k[:], f.left):]
	return k
}

func appendNumber(b []byte, v uint64) []byte {
	for shift := 8 * (numberSize - 1); shift >= 0; shift -= 8 {
		b = append(b, uint8(v>>shift))
	}
	return b
}

// start begins a frame with room for all n bytes that follow its first.
func start(n int, second uint8) []byte {
	return append(make([]byte, 0, byteSize+n), uint8(n), second)
}
