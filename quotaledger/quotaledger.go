// Package quotaledger: how much of which key is let in, kept through any fall of its disk: see DOC.md.
package quotaledger

import (
	"quotaledger/api"
	"quotaledger/frame"
)

// Request writes a request (P3).
func Request(r api.Request) []byte { return frame.WriteRequest(r) }

// ReadRequest reads one (P4).
func ReadRequest(b []byte) (api.Request, int, error) { return frame.ReadRequest(b) }

// Reply writes a reply (P3).
func Reply(r api.Reply) []byte { return frame.WriteReply(r) }

// ReadReply reads one (P4).
func ReadReply(b []byte) (api.Reply, int, error) { return frame.ReadReply(b) }

// Server is a ledger over a disk.
type Server struct{}

// Conn is a connection to a ledger.
type Conn struct{}

// Open opens a ledger (P5, P13).
func Open(d api.Disk, block uint64) (*Server, error) { return nil, nil }

// Connect makes a connection (P6).
func (s *Server) Connect() *Conn { return &Conn{} }

// Feed: the clock says now, and bytes come: the replies (P6 to P12).
func (c *Conn) Feed(now uint64, b []byte) []byte { return nil }

// Crowd feeds each stream by a connection of its own, all at the same time (P17).
func Crowd(s *Server, now uint64, streams [][]byte) [][]byte { return nil }

// Admitted tells how many were let in since the ledger was opened (P16).
func (s *Server) Admitted() uint64 { return 0 }
