package frame

import (
	"quotaledger/api"
	"quotaledger/field"
)

const replySize = field.ByteSize + 2*field.NumberSize

// requestLength tells how many bytes follow the first of a request; 0: there is no such Op.
// Each request has what the next shorter one has, and some more.
func requestLength(op uint8) int {
	n := 0
	switch op {
	case api.Define:
		n += field.ByteSize + field.NumberSize
		fallthrough
	case api.Admit:
		n += field.NumberSize
		fallthrough
	case api.Query, api.Delete:
		n += field.KeySize
		fallthrough
	case api.Snapshot, api.Clock:
		n += field.ByteSize
	}
	return n
}

// replyLength tells how many bytes follow the first of a reply; 0: there is no such Code.
func replyLength(code uint8) int {
	if code < api.Done || code > api.Exists {
		return 0
	}
	return replySize
}
