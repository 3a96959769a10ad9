package quotaledger_test

import (
	"maps"
	"math/big"
	"testing"

	"quotaledger/api"
	"quotaledger/quotaledger"
)

// letIn: so many were let in at the time that the ledger had.
type letIn struct{ time, n uint64 }

// life is a key from its Define on, across all ledgers.
type life struct {
	model
	last letIn // Window: the number of the last window in which it stood above 0, and where it stood in it
	let  []letIn
}

func newLife(p api.Policy) *life {
	return &life{model: model{p: p, stands: number(0), window: number(0)}}
}

// doubt is the request that was answered Unavailable first, and how its key would stand behind it.
type doubt struct {
	r    api.Request
	then *life
}

// checker asks ledgers over one disk, and holds each reply, and what is there behind each fall, against the document's words.
type checker struct {
	t      *testing.T
	disk   *fallingDisk
	block  uint64
	server *quotaledger.Server
	conn   *quotaledger.Conn
	time   uint64
	floor  uint64 // the time of the last Done of a Define, Delete, Snapshot
	lives  map[api.Key]*life
	one    *doubt
	count  uint64
	others map[string]string // files of the disk that are no ledger's
	seen   map[string]int
}

func newChecker(t *testing.T, block uint64) *checker {
	h := &checker{t: t, disk: newFallingDisk(), block: block, lives: map[api.Key]*life{}, seen: map[string]int{}}
	h.open()
	return h
}

func (h *checker) send(now uint64, r api.Request) api.Reply {
	h.t.Helper()
	replies := readAll(h.t, h.conn.Feed(now, quotaledger.Request(r)))
	if len(replies) != 1 {
		h.t.Fatalf("P6: %+v at %d: the replies %+v", r, now, replies)
	}
	return replies[0]
}

// expect is the reply over a disk that is well, what a key's life is then (nil: none), and whether the disk may be needed.
func (h *checker) expect(r api.Request) (api.Reply, *life, bool) {
	was := h.lives[r.Key]
	switch {
	case r.Op == api.Clock:
		return done(h.time, 0), nil, false
	case r.Op == api.Snapshot:
		return done(0, 0), nil, true
	case r.Op == api.Define && (r.Policy.Kind == api.Spaced && r.Policy.X == 0 || r.Policy.Kind == api.Window && r.Policy.Y == 0):
		return code(api.BadPolicy), was, false
	case r.Op == api.Define && was != nil:
		return code(api.Exists), was, false
	case r.Op == api.Define && len(h.lives) >= api.MaxKeys:
		return code(api.Full), was, false
	case r.Op == api.Define:
		return done(0, 0), newLife(r.Policy), true
	case was == nil:
		return code(api.Unknown), nil, false
	case r.Op == api.Delete:
		return done(0, 0), nil, true
	}
	then := *was
	if r.Op == api.Query {
		then.turn(h.time)
		return then.reply(api.Done), &then, false
	}
	reply := then.admit(h.time, r.N)
	needs := reply.Code == api.Admitted && r.N > 0
	if needs {
		then.last = letIn{reply.B, reply.A}
		then.let = append(then.let[:len(then.let):len(then.let)], letIn{h.time, r.N})
	}
	return reply, &then, needs
}

func (h *checker) ask(now uint64, r api.Request) api.Reply {
	h.t.Helper()
	h.time = max(h.time, now)
	want, then, needs := h.expect(r)
	ill, errors := h.disk.errors > 0, h.disk.errors
	var files map[string]string
	if r.Op == api.Snapshot {
		files = maps.Clone(h.disk.durable)
	}
	got := h.send(now, r)
	switch {
	case h.disk.late > 0:
		h.t.Fatalf("P12: %+v: something was written behind an error of the disk", r)
	case got.Code == api.Unavailable && (!needs || h.disk.errors == 0):
		h.t.Fatalf("P12: %+v at %d: Unavailable, want %+v", r, h.time, want)
	case got.Code == api.Unavailable:
		h.seen["unavailable"]++
		if h.one == nil {
			h.one = &doubt{r: r, then: then}
		}
		if got != code(api.Unavailable) {
			h.t.Fatalf("P11: %+v: %+v", r, got)
		}
		return got
	case got != want:
		h.t.Fatalf("P12: %+v at %d: %+v, want %+v", r, h.time, got, want)
	case needs && (h.disk.errors > errors || ill && r.Op != api.Admit):
		h.t.Fatalf("P12: %+v: %+v over a disk that said an error", r, got)
	case needs && ill:
		h.seen["covered"]++
	}
	if r.Op == api.Snapshot {
		h.anew(files)
	}
	h.turn(r, got, then)
	return got
}

// anew: behind a Snapshot that is Done, is all written anew, and is what was written ahead of it gone, durably?
func (h *checker) anew(was map[string]string) {
	h.t.Helper()
	if len(h.disk.pending) > 0 {
		h.t.Fatalf("P12: Done of a Snapshot that is not durable: %+v", h.disk.pending)
	}
	for name, data := range h.disk.durable {
		if h.others[name] != "" {
			continue
		}
		if data == was[name] {
			h.t.Fatalf("P15: behind a Snapshot the file %s is there as it was", name)
		}
		if len(data) > 1000 {
			h.t.Fatalf("P15: behind a Snapshot the file %s has %d bytes", name, len(data))
		}
	}
	if n := len(h.disk.durable) - len(h.others); n != 1 {
		h.t.Fatalf("P15: behind a Snapshot there are %d files", n)
	}
	h.seen["snapshot"]++
}

// turn: the request was done.
func (h *checker) turn(r api.Request, got api.Reply, then *life) {
	switch r.Op {
	case api.Define, api.Delete, api.Snapshot:
		if got.Code == api.Done {
			h.floor = h.time
		}
	case api.Admit:
		if got.Code == api.Admitted {
			h.count += r.N
		}
	}
	if n := h.server.Admitted(); n != h.count {
		h.t.Fatalf("P16: Admitted() = %d, want %d", n, h.count)
	}
	if r.Op == api.Clock || r.Op == api.Snapshot {
		return
	}
	h.become(r.Key, then)
}

func (h *checker) become(k api.Key, then *life) {
	if then == nil && h.lives[k] != nil {
		h.lives[k].check(h.t)
		delete(h.lives, k)
	}
	if then != nil {
		h.lives[k] = then
	}
}

// open opens a ledger over what the disk has, if that lets it, and looks what it has.
func (h *checker) open() bool {
	h.t.Helper()
	h.disk.errors, h.disk.late = 0, 0
	s, err := quotaledger.Open(h.disk, h.block)
	if h.disk.errors > 0 {
		if s != nil || err != h.disk.fault.says || h.disk.late > 0 {
			h.t.Fatalf("P5: Open over a disk that says %v = %v, %v", h.disk.fault.says, s, err)
		}
		h.seen["not opened"]++
		return false
	}
	if err != nil || s == nil {
		h.t.Fatalf("P5: Open = %v, %v", s, err)
	}
	h.server, h.conn, h.count = s, s.Connect(), 0
	now := h.send(0, clock).A
	if now < h.floor || now > h.time {
		h.t.Fatalf("P13: the time is %d, was %d, and %d at the last Done", now, h.time, h.floor)
	}
	for _, k := range h.keys() {
		h.look(k, now)
	}
	h.time, h.one = now, nil
	return true
}

// keys are all that there are, were, or may be.
func (h *checker) keys() []api.Key {
	var l []api.Key
	for i := range byte(api.MaxKeys + 2) {
		l = append(l, api.Key{'k', 7: i})
	}
	return l
}

// look: does the key stand where it may?
func (h *checker) look(k api.Key, now uint64) {
	h.t.Helper()
	got, was := h.send(0, query(k)), h.lives[k]
	may := h.one != nil && h.one.r.Key == k && h.one.r.Op != api.Snapshot
	switch {
	case got.Code == api.Unknown && was == nil:
		return
	case got.Code == api.Unknown && may && h.one.r.Op == api.Delete:
		h.seen["one delete"]++
		h.become(k, nil)
		return
	case got.Code == api.Done && was == nil && may && h.one.r.Op == api.Define:
		h.seen["one define"]++
		was = h.one.then
		h.become(k, was)
	case got.Code != api.Done || was == nil:
		h.t.Fatalf("P13: %v is %+v; it was %+v, and the one request %+v", k, got, was, h.one)
	}
	low := was.stood(h.t, now)
	within := got.A >= low && got.A <= sumOrNever(low, h.block)
	if may && h.one.r.Op == api.Admit && !within {
		then := h.one.then.stood(h.t, now)
		h.seen["one admit"]++
		within = got.A >= low && got.A >= then && got.A <= sumOrNever(then, h.block)
	}
	if want := was.windowOf(now); !within || got.B != want {
		h.t.Fatalf("P13: %v stands at %+v at %d, and stood at %d of %+v; the one request %+v", k, got, now, low, was.p, h.one)
	}
	if got.A > low {
		h.seen["further on"]++
	}
	was.stands, was.window, was.last = number(got.A), number(got.B), letIn{got.B, got.A}
}

func sumOrNever(a, b uint64) uint64 { return orNever(plus(number(a), number(b))) }

func (l *life) windowOf(now uint64) uint64 {
	if l.p.Kind == api.Spaced {
		return 0
	}
	return now / l.p.Y
}

// stood: where it stood, or would have, as a ledger at that time has it.
func (l *life) stood(t *testing.T, now uint64) uint64 {
	t.Helper()
	w := l.windowOf(now)
	switch {
	case l.p.Kind == api.Spaced:
		return l.stands.Uint64()
	case l.last.n == 0 || w > l.last.time:
		return 0
	case w < l.last.time:
		t.Fatalf("P13: the time is %d, in window %d, and something was let in in window %d", now, w, l.last.time)
	}
	return l.last.n
}

// check: was no more let in than the policy allows (P14)?
func (l *life) check(t *testing.T) {
	t.Helper()
	if l.p.Kind == api.Window {
		windows := map[uint64]*big.Int{}
		for _, one := range l.let {
			w := one.time / l.p.Y
			if windows[w] == nil {
				windows[w] = number(0)
			}
			windows[w] = plus(windows[w], number(one.n))
			if windows[w].Cmp(number(l.p.X)) > 0 {
				t.Fatalf("P14: %v of %+v in window %d: %v", windows[w], l.p, w, l.let)
			}
		}
		return
	}
	for i, first := range l.let {
		all := number(0)
		for _, one := range l.let[i:] {
			all = plus(all, number(one.n))
			if one.time < first.time {
				continue
			}
			between := plus(number(one.time-first.time), number(l.p.Y))
			if all.Cmp(plus(number(1), between.Div(between, number(l.p.X)))) > 0 {
				t.Fatalf("P14: %v of %+v from %d to %d: %v", all, l.p, first.time, one.time, l.let)
			}
		}
	}
}

func (h *checker) checkAll() {
	h.t.Helper()
	for _, l := range h.lives {
		l.check(h.t)
	}
}

// twice: opened once more, nothing else having been done, all is the same.
func (h *checker) twice() {
	h.t.Helper()
	was := h.all()
	h.disk.fall(lost)
	if !h.open() {
		h.t.Fatalf("P5: not opened over a disk that is well")
	}
	for i, r := range h.all() {
		if r != was[i] {
			h.t.Fatalf("P13: opened once more: %+v, was %+v", r, was[i])
		}
	}
}

func (h *checker) all() []api.Reply {
	l := []api.Reply{h.send(0, clock)}
	for _, k := range h.keys() {
		l = append(l, h.send(0, query(k)))
	}
	return l
}
