package frame

import "quotaledger/api"

const (
	byteSize   = 1
	keySize    = len(api.Key{})
	numberSize = 8
	replySize  = byteSize + 2*numberSize
)

// requestLength tells how many bytes follow the first of a request; 0: there is no such Op.
// Each request has what the next shorter one has, and some more.
func requestLength(op uint8) int {
	n := 0
	switch op {
	case api.Define:
		n += byteSize + numberSize
		fallthrough
	case api.Admit:
		n += numberSize
		fallthrough
	case api.Query, api.Delete:
		n += keySize
		fallthrough
	case api.Snapshot, api.Clock:
		n += byteSize
	}
	return n
}

// replyLength tells how many bytes follow the first of a reply; 0: there is no such Code.
func replyLength(code uint8) int {
	if code < api.Done || code > api.Exists {
		return 0
	}
	return replySize
}
