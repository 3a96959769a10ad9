package frame

import (
	"errors"

	"quotaledger/api"
	"quotaledger/field"
)

// shape is what requests and replies differ in: the least and the greatest first byte, and the first byte that goes with a second (0: none does).
type shape struct {
	least, most uint8
	length      func(second uint8) int
}

func requests() shape { return shape{least: 1, most: api.MaxFrame, length: requestLength} }

func replies() shape { return shape{least: replySize, most: replySize, length: replyLength} }

// beginning: ErrFrame: no frame begins so; ErrShort: it may be one, but both bytes that tell are not there yet.
func (s shape) beginning(b []byte) error {
	switch {
	case len(b) == 0:
		return api.ErrShort
	case b[0] < s.least || b[0] > s.most:
		return api.ErrFrame
	case len(b) == 1:
		return api.ErrShort
	case int(b[0]) != s.length(b[1]):
		return api.ErrFrame
	}
	return nil
}

// body is what follows the first byte of the frame at the beginning of b.
// Its room ends with it, so that nothing behind the frame can be reached or written by way of it.
func (s shape) body(b []byte) ([]byte, error) {
	err := s.beginning(b)
	if errors.Is(err, api.ErrFrame) {
		return nil, err
	}
	if errors.Is(err, api.ErrShort) || len(b) <= int(b[0]) {
		return nil, api.ErrShort
	}
	end := field.ByteSize + int(b[0])
	return b[field.ByteSize:end:end], nil
}
