// Package frame: requests and replies as bytes (P3, P4).
package frame

import (
	"quotaledger/api"
	"quotaledger/field"
)

// WriteRequest is the request's frame; nil, if there is no such Op.
func WriteRequest(r api.Request) []byte {
	n := requestLength(r.Op)
	if n == 0 {
		return nil
	}
	b := start(n, r.Op)
	switch r.Op {
	case api.Define:
		b = append(b, r.Key[:]...)
		b = field.AppendPolicy(b, r.Policy)
	case api.Admit:
		b = append(b, r.Key[:]...)
		b = field.AppendNumber(b, r.N)
	case api.Query, api.Delete:
		b = append(b, r.Key[:]...)
	}
	return b
}

// ReadRequest is the request whose frame stands at the beginning of b, and how many bytes the frame has.
func ReadRequest(b []byte) (api.Request, int, error) {
	body, err := requests().body(b)
	if err != nil {
		return api.Request{}, 0, err
	}
	f := field.Of(body)
	r := api.Request{Op: f.Byte()}
	switch r.Op {
	case api.Define:
		r.Key = f.Key()
		r.Policy = f.Policy()
	case api.Admit:
		r.Key = f.Key()
		r.N = f.Number()
	case api.Query, api.Delete:
		r.Key = f.Key()
	}
	return r, field.ByteSize + len(body), nil
}

// WriteReply is the reply's frame, whatever its Code.
func WriteReply(r api.Reply) []byte {
	b := start(replySize, r.Code)
	b = field.AppendNumber(b, r.A)
	return field.AppendNumber(b, r.B)
}

// ReadReply is the reply whose frame stands at the beginning of b, and how many bytes the frame has.
func ReadReply(b []byte) (api.Reply, int, error) {
	body, err := replies().body(b)
	if err != nil {
		return api.Reply{}, 0, err
	}
	f := field.Of(body)
	r := api.Reply{Code: f.Byte()}
	r.A = f.Number()
	r.B = f.Number()
	return r, field.ByteSize + len(body), nil
}

// start begins a frame with room for all n bytes that follow its first.
func start(n int, second uint8) []byte {
	return append(make([]byte, 0, field.ByteSize+n), uint8(n), second)
}
