// Package frame: requests and replies as bytes (P3, P4).
package frame

import "quotaledger/api"

// WriteRequest is the request's frame; nil, if there is no such Op.
func WriteRequest(r api.Request) []byte {
	n := requestLength(r.Op)
	if n == 0 {
		return nil
	}
	b := start(n, r.Op)
	switch r.Op {
	case api.Define:
		b = append(b, r.Key[:]...)
		b = append(b, r.Policy.Kind)
		b = appendNumber(b, r.Policy.X)
		b = appendNumber(b, r.Policy.Y)
	case api.Admit:
		b = append(b, r.Key[:]...)
		b = appendNumber(b, r.N)
	case api.Query, api.Delete:
		b = append(b, r.Key[:]...)
	}
	return b
}

// ReadRequest is the request whose frame stands at the beginning of b, and how many bytes the frame has.
func ReadRequest(b []byte) (api.Request, int, error) {
	body, err := requests().body(b)
	if err != nil {
		return api.Request{}, 0, err
	}
	f := fields{left: body}
	r := api.Request{Op: f.small()}
	switch r.Op {
	case api.Define:
		r.Key = f.key()
		r.Policy.Kind = f.small()
		r.Policy.X = f.number()
		r.Policy.Y = f.number()
	case api.Admit:
		r.Key = f.key()
		r.N = f.number()
	case api.Query, api.Delete:
		r.Key = f.key()
	}
	return r, byteSize + len(body), nil
}

// WriteReply is the reply's frame, whatever its Code.
func WriteReply(r api.Reply) []byte {
	b := start(replySize, r.Code)
	b = appendNumber(b, r.A)
	return appendNumber(b, r.B)
}

// ReadReply is the reply whose frame stands at the beginning of b, and how many bytes the frame has.
func ReadReply(b []byte) (api.Reply, int, error) {
	body, err := replies().body(b)
	if err != nil {
		return api.Reply{}, 0, err
	}
	f := fields{left: body}
	r := api.Reply{Code: f.small()}
	r.A = f.number()
	r.B = f.number()
	return r, byteSize + len(body), nil
}
