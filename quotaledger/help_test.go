package quotaledger_test

import (
	"maps"
	"slices"
	"testing"

	"quotaledger/api"
	"quotaledger/quotaledger"
)

// memoryDisk is a disk that never goes down; it says an error to every call, if the test asks for that.
type memoryDisk struct {
	files map[string][]byte
	says  error
}

func newDisk() *memoryDisk { return &memoryDisk{files: map[string][]byte{}} }

func (d *memoryDisk) Read(name string) ([]byte, error) {
	b, ok := d.files[name]
	switch {
	case d.says != nil:
		return nil, d.says
	case !ok:
		return nil, api.ErrNone
	}
	return append([]byte(nil), b...), nil
}

func (d *memoryDisk) Write(name string, data []byte) error {
	d.files[name] = append([]byte(nil), data...)
	return d.says
}

func (d *memoryDisk) Append(name string, data []byte) error {
	d.files[name] = append(d.files[name], data...)
	return d.says
}

func (d *memoryDisk) Remove(name string) error {
	delete(d.files, name)
	return d.says
}

func (d *memoryDisk) Names() ([]string, error) {
	if d.says != nil {
		return nil, d.says
	}
	return slices.Sorted(maps.Keys(d.files)), nil
}

func (d *memoryDisk) Sync() error { return d.says }

// ledger is one that the tests ask, by a connection of its own.
type ledger struct {
	t *testing.T
	s *quotaledger.Server
	c *quotaledger.Conn
}

func openLedger(t *testing.T) ledger {
	t.Helper()
	return openBlock(t, 7)
}

func openBlock(t *testing.T, block uint64) ledger {
	t.Helper()
	s, err := quotaledger.Open(newDisk(), block)
	if err != nil || s == nil {
		t.Fatalf("P5: Open over an empty disk: %v, %v", s, err)
	}
	return ledger{t: t, s: s, c: s.Connect()}
}

// ask: the one reply to one request.
func (l ledger) ask(now uint64, r api.Request) api.Reply {
	l.t.Helper()
	replies := readAll(l.t, l.c.Feed(now, quotaledger.Request(r)))
	if len(replies) != 1 {
		l.t.Fatalf("P6: %+v at %d: the replies %+v, want one", r, now, replies)
	}
	return replies[0]
}

func (l ledger) want(now uint64, r api.Request, want api.Reply) {
	l.t.Helper()
	if got := l.ask(now, r); got != want {
		l.t.Errorf("%+v at %d: %+v, want %+v", r, now, got, want)
	}
}

// readAll: bytes that are nothing but whole replies.
func readAll(t *testing.T, b []byte) []api.Reply {
	t.Helper()
	var l []api.Reply
	for len(b) > 0 {
		r, n, err := quotaledger.ReadReply(b)
		if err != nil {
			t.Fatalf("P6: no reply: %x: %v", b, err)
		}
		l = append(l, r)
		b = b[n:]
	}
	return l
}

func requests(l ...api.Request) []byte {
	var b []byte
	for _, r := range l {
		b = append(b, quotaledger.Request(r)...)
	}
	return b
}

func spaced(x, y uint64) api.Policy { return api.Policy{Kind: api.Spaced, X: x, Y: y} }

func window(x, y uint64) api.Policy { return api.Policy{Kind: api.Window, X: x, Y: y} }

func define(k api.Key, p api.Policy) api.Request {
	return api.Request{Op: api.Define, Key: k, Policy: p}
}

func admit(k api.Key, n uint64) api.Request { return api.Request{Op: api.Admit, Key: k, N: n} }

func query(k api.Key) api.Request { return api.Request{Op: api.Query, Key: k} }

func remove(k api.Key) api.Request { return api.Request{Op: api.Delete, Key: k} }

var (
	clock    = api.Request{Op: api.Clock}
	snapshot = api.Request{Op: api.Snapshot}
)

func done(a, b uint64) api.Reply { return api.Reply{Code: api.Done, A: a, B: b} }

func admitted(a, b uint64) api.Reply { return api.Reply{Code: api.Admitted, A: a, B: b} }

func denied(a uint64) api.Reply { return api.Reply{Code: api.Denied, A: a} }

func code(c uint8) api.Reply { return api.Reply{Code: c} }
