// Package quotaledger: how much of which key is let in, kept through any fall of its disk: see DOC.md.
package quotaledger

import (
	"errors"
	"slices"
	"sync"
	"sync/atomic"

	"quotaledger/api"
	"quotaledger/frame"
)

// Request writes a request (P3).
func Request(r api.Request) []byte { return frame.WriteRequest(r) }

// ReadRequest reads one (P4).
func ReadRequest(b []byte) (api.Request, int, error) { return frame.ReadRequest(b) }

// Reply writes a reply (P3).
func Reply(r api.Reply) []byte { return frame.WriteReply(r) }

// ReadReply reads one (P4).
func ReadReply(b []byte) (api.Reply, int, error) { return frame.ReadReply(b) }

// Server is a ledger over a disk.
type Server struct {
	mu sync.Mutex // held while the book, or what waits in a connection, is read or turned
	book
	admitted atomic.Uint64
}

// Conn is a connection to a ledger.
type Conn struct {
	server *Server
	waits  []byte // the beginning of a frame that is not whole yet
	bad    bool   // bytes came that are no frame
}

// Open opens a ledger (P5, P13).
func Open(d api.Disk, block uint64) (*Server, error) {
	b, err := openBook(d, block)
	if err != nil {
		return nil, err
	}
	return &Server{book: b}, nil
}

// Connect makes a connection (P6).
func (s *Server) Connect() *Conn { return &Conn{server: s} }

// Feed: the clock says now, and bytes come: the replies (P6 to P12).
func (c *Conn) Feed(now uint64, b []byte) []byte {
	if c == nil || c.server == nil {
		return nil
	}
	c.server.mu.Lock()
	defer c.server.mu.Unlock()
	c.server.pass(now)
	if c.bad {
		return nil
	}
	return c.read(slices.Concat(c.waits, b))
}

// read does the requests of the bytes, keeps what is not whole, and tells the replies.
func (c *Conn) read(b []byte) []byte {
	var replies []byte
	r, n, err := frame.ReadRequest(b)
	for err == nil {
		replies = append(replies, frame.WriteReply(c.server.do(r))...)
		b = b[n:]
		r, n, err = frame.ReadRequest(b)
	}
	if errors.Is(err, api.ErrFrame) {
		c.bad, c.waits = true, nil
		return append(replies, frame.WriteReply(api.Reply{Code: api.BadFrame})...)
	}
	// A copy of its own, so that the bytes of the requests that are done are not kept with it.
	c.waits = append([]byte(nil), b...)
	return replies
}

// do does a request: its reply.
func (s *Server) do(r api.Request) api.Reply {
	switch r.Op {
	case api.Define:
		return s.define(r.Key, r.Policy)
	case api.Admit:
		return s.count(r.N, s.admit(r.Key, r.N))
	case api.Query:
		return s.query(r.Key)
	case api.Delete:
		return s.remove(r.Key)
	case api.Clock:
		return s.clock()
	}
	// No other request comes out of a frame.
	return s.snapshot()
}

// count hands a reply on, and counts n if it lets them in.
func (s *Server) count(n uint64, reply api.Reply) api.Reply {
	if reply.Code == api.Admitted {
		s.admitted.Add(n)
	}
	return reply
}

// Crowd feeds each stream by a connection of its own, all at the same time (P17).
func Crowd(s *Server, now uint64, streams [][]byte) [][]byte {
	if len(streams) == 0 {
		return nil
	}
	replies := make([][]byte, len(streams))
	var all sync.WaitGroup
	for i, b := range streams {
		all.Add(1)
		go func() {
			defer all.Done()
			replies[i] = s.Connect().Feed(now, b)
		}()
	}
	all.Wait()
	return replies
}

// Admitted tells how many were let in since the ledger was opened (P16).
func (s *Server) Admitted() uint64 {
	if s == nil {
		return 0
	}
	return s.admitted.Load()
}
