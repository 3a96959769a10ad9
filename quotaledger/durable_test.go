package quotaledger_test

import (
	"errors"
	"maps"
	"math/rand"
	"testing"

	"quotaledger/api"
	"quotaledger/quotaledger"
)

var errOdd = errors.New("of no number")

func key(i byte) api.Key { return api.Key{'k', 7: i} }

// faults are all ways in which a disk fails at one of the calls that write of a request.
func faults(r api.Request) []fault {
	calls := 2
	if r.Op == api.Snapshot {
		calls = 4
	}
	var l []fault
	for at := range calls {
		for _, says := range []error{api.ErrFull, api.ErrDown, errOdd} {
			for _, f := range []fault{{done: false, stays: false}, {done: true, stays: false}, {done: false, stays: true}, {done: true, stays: true}} {
				l = append(l, fault{at: at, says: says, done: f.done, stays: f.stays})
			}
		}
	}
	return l
}

// story is requests of all kinds over both kinds of policies, with the times at which they come.
func story() []step {
	a, b, c := key(0), key(1), key(2)
	return []step{
		{now: 500, r: define(a, spaced(10, 40))}, {now: 510, r: define(b, window(20, 100))},
		{now: 510, r: admit(b, 3)}, {now: 520, r: admit(a, 2)}, {now: 521, r: admit(a, 1)}, {now: 530, r: admit(b, 9)},
		{now: 600, r: admit(b, 1)}, {now: 600, r: define(c, window(1, 7))}, {now: 605, r: admit(c, 1)},
		{now: 640, r: snapshot}, {now: 650, r: remove(a)}, {now: 660, r: admit(b, 4)}, {now: 670, r: define(a, window(5, 1000))},
		{now: 680, r: admit(a, 4)}, {now: 690, r: remove(b)}, {now: 700, r: define(b, spaced(3, 0))}, {now: 710, r: admit(b, 1)},
	}
}

func tell(h *checker, steps []step) {
	for _, s := range steps {
		h.ask(s.now, s.r)
	}
}

// TestLeftAndOpenedAnew: behind each request the ledger is left, and nothing that was not durable is kept.
func TestLeftAndOpenedAnew(t *testing.T) {
	for _, block := range []uint64{0, 1, 5, 25, 1000, api.Never - 700, api.Never - 3, api.Never} {
		for end := range len(story()) + 1 {
			h := newChecker(t, block)
			tell(h, story()[:end])
			h.disk.fall(lost)
			h.open()
			h.twice()
			tell(h, story()[end:])
			h.disk.fall(lost)
			h.open()
			h.checkAll()
		}
	}
}

// TestAFallAtEachCall: the disk fails at each call that writes of each request, in each way, and of what it was told nothing, a beginning or all is kept.
func TestAFallAtEachCall(t *testing.T) {
	seen := map[string]int{}
	for _, block := range []uint64{0, 5, api.Never} {
		for at, s := range story() {
			for _, f := range faults(s.r) {
				for _, keeps := range []int{-1, 0, 1, 8, 9, 17, 25, 66, 67, 1 << 20} {
					h := newChecker(t, block)
					h.seen = seen
					tell(h, story()[:at])
					h.disk.fails(f)
					h.ask(s.now, s.r)
					if h.disk.calls > f.at && h.one == nil {
						t.Fatalf("P12: %+v over a disk with %+v was done", s.r, f)
					}
					h.disk.fall(func(_, bytes int) int { return min(keeps, bytes) })
					h.open()
					h.twice()
					tell(h, story()[at:])
					h.checkAll()
				}
			}
		}
	}
	for _, what := range []string{"unavailable", "one define", "one delete", "one admit", "further on"} {
		if seen[what] == 0 {
			t.Errorf("the test never saw: %s", what)
		}
	}
}

// TestEachBeginning: of what a Define wrote when the disk went down any number of bytes is kept.
func TestEachBeginning(t *testing.T) {
	for n := range 200 {
		h := newChecker(t, 5)
		h.ask(7, define(key(0), spaced(10, 40)))
		h.ask(8, admit(key(0), 2))
		h.disk.fails(fault{at: 1, says: api.ErrDown, stays: true})
		h.ask(9, define(key(1), window(9, 10)))
		size := len(h.disk.pending[0].data)
		h.disk.fall(func(_, bytes int) int { return min(n, bytes) })
		h.open()
		if there := h.lives[key(1)] != nil; there != (n >= size) {
			t.Errorf("P13: %d bytes of %d: the key is there: %v", n, size, there)
		}
		h.twice()
	}
}

// TestBehindAnError: nothing turns, all that would need the disk is Unavailable, all else is as ever, until the ledger is opened anew.
func TestBehindAnError(t *testing.T) {
	for _, r := range []api.Request{define(key(2), window(1, 1)), remove(key(0)), snapshot, admit(key(0), 3), admit(key(1), 6)} {
		for _, f := range faults(r) {
			h := newChecker(t, 5)
			h.ask(100, define(key(0), spaced(10, 40)))
			h.ask(100, define(key(1), window(20, 100)))
			h.ask(100, admit(key(0), 1))
			h.ask(100, admit(key(1), 1))
			h.disk.fails(f)
			if got := h.ask(100, r); got != code(api.Unavailable) {
				t.Errorf("P12: %+v with %+v: %+v", r, f, got)
			}
			tell(h, []step{
				{now: 100, r: query(key(0))}, {now: 100, r: query(key(1))}, {now: 101, r: clock}, {now: 101, r: admit(key(0), 9)},
				{now: 101, r: admit(key(0), 0)}, {now: 101, r: admit(key(1), 0)}, {now: 101, r: admit(key(1), 21)}, {now: 101, r: query(key(2))},
				{now: 101, r: define(key(0), spaced(1, 1))}, {now: 101, r: define(key(2), spaced(0, 1))}, {now: 101, r: remove(key(3))},
			})
			for _, r := range []api.Request{snapshot, define(key(4), spaced(1, 1)), remove(key(1)), snapshot, admit(key(0), 2)} {
				if got := h.ask(102, r); got != code(api.Unavailable) {
					t.Errorf("P12: behind an error %+v: %+v", r, got)
				}
			}
			h.disk.fall(kept)
			h.open()
			h.twice()
			h.ask(103, define(key(5), spaced(1, 1)))
			h.ask(103, snapshot)
		}
	}
}

func TestWhatIsCoveredIsLetInBehindAnError(t *testing.T) {
	for _, keeps := range []func(int, int) int{lost, kept} {
		h := newChecker(t, 5)
		h.ask(100, define(key(0), spaced(2, 40)))
		h.ask(100, define(key(1), window(20, 100)))
		h.ask(100, admit(key(0), 1))
		h.ask(100, admit(key(1), 1))
		h.disk.fails(fault{at: 0, says: api.ErrDown, stays: true})
		for i, want := range []api.Reply{code(api.Unavailable), admitted(104, 0), admitted(2, 1), admitted(106, 0), code(api.Unavailable), admitted(6, 1), code(api.Unavailable)} {
			r := []api.Request{define(key(2), spaced(1, 1)), admit(key(0), 1), admit(key(1), 1), admit(key(0), 1), admit(key(0), 1), admit(key(1), 4), admit(key(1), 1)}[i]
			if got := h.ask(100, r); got != want {
				t.Errorf("P12: %+v behind an error: %+v, want %+v", r, got, want)
			}
		}
		if got := h.ask(200, admit(key(1), 1)); got != code(api.Unavailable) {
			t.Errorf("P12: what was reserved in another window covers: %+v", got)
		}
		h.disk.fall(keeps)
		h.open()
		h.twice()
	}
}

// TestNothingIsCoveredOfAKeyThatMayBeGone: its Delete may count as done.
func TestNothingIsCoveredOfAKeyThatMayBeGone(t *testing.T) {
	h := newChecker(t, 100)
	h.ask(100, define(key(0), spaced(2, 40)))
	h.ask(100, admit(key(0), 1))
	h.disk.fails(fault{at: 1, says: api.ErrFull})
	h.ask(100, remove(key(0)))
	for n, want := range []api.Reply{admitted(102, 0), code(api.Unavailable), code(api.Unavailable)} {
		if got := h.ask(100, admit(key(0), uint64(n))); got != want {
			t.Errorf("P12: %d of a key that may be gone: %+v, want %+v", n, got, want)
		}
	}
	h.disk.fall(kept)
	h.open()
	if h.lives[key(0)] != nil {
		t.Errorf("P13: the Delete was kept, and does not count")
	}
}

// TestLeftWithoutAFall: what a ledger could not make durable is there to read, and is lost only when another has answered.
func TestLeftWithoutAFall(t *testing.T) {
	for _, r := range []api.Request{define(key(1), window(1, 1)), remove(key(0)), admit(key(0), 3), snapshot} {
		h := newChecker(t, 5)
		h.ask(100, define(key(0), spaced(10, 40)))
		h.ask(110, admit(key(0), 1))
		h.disk.fails(fault{at: 1, says: api.ErrFull})
		h.ask(120, r)
		h.disk.fails(fault{at: -1})
		h.open()
		h.twice()
	}
}

// TestOpenFails: at each of its calls that write, again and again; nothing is lost by that.
func TestOpenFails(t *testing.T) {
	failed := 0
	for _, f := range faults(clock) {
		for _, keeps := range []func(int, int) int{lost, kept, func(i, bytes int) int { return bytes / 2 }} {
			for _, at := range []int{0, 1} {
				h := newChecker(t, 5)
				tell(h, story()[:9])
				h.disk.fails(fault{at: at, says: api.ErrDown, stays: true})
				h.ask(606, define(key(9), spaced(1, 1)))
				for range 3 {
					h.disk.fall(keeps)
					h.disk.fails(f)
					if h.open() {
						break
					}
					failed++
				}
				h.disk.fall(keeps)
				if !h.open() {
					t.Fatalf("P5: not opened over a disk that is well")
				}
				h.twice()
				tell(h, story()[9:])
				h.checkAll()
			}
		}
	}
	if failed == 0 {
		t.Errorf("no Open failed")
	}
}

// TestOpenOverADiskThatSaysAnErrorAtReading: it is told as it is, and there is no ledger.
func TestOpenOverADiskThatSaysAnErrorAtReading(t *testing.T) {
	for _, says := range []error{api.ErrDown, api.ErrFull, api.ErrNone, errOdd} {
		d := newDisk()
		s, _ := quotaledger.Open(d, 5)
		s.Connect().Feed(3, requests(define(keyed, spaced(1, 1)), snapshot))
		d.says = says
		if s, err := quotaledger.Open(d, 5); s != nil || err != says {
			t.Errorf("P5: Open over a disk that says %v = %v, %v", says, s, err)
		}
	}
}

// TestTheExampleOfTheDocument: with a block of 25, 540 is 540 to 565 behind a fall.
func TestTheExampleOfTheDocument(t *testing.T) {
	h := newChecker(t, 25)
	h.ask(520, define(key(0), spaced(10, 40)))
	h.ask(520, admit(key(0), 1))
	if got := h.ask(520, admit(key(0), 1)); got != admitted(540, 0) {
		t.Errorf("P9: %+v", got)
	}
	h.disk.fall(lost)
	h.open()
	if got := h.send(0, query(key(0))); got.A < 540 || got.A > 565 {
		t.Errorf("P13: it stands at %d", got.A)
	}
}

// TestBlocksAtTheEdges: a block of 0 loses nothing, and one that has no room ends at NEVER, or with the window.
func TestBlocksAtTheEdges(t *testing.T) {
	for _, c := range []struct{ block, spaced, window uint64 }{{0, 530, 2}, {7, 537, 9}, {18, 548, 20}, {19, 549, 20}, {api.Never, api.Never, 20}} {
		h := newChecker(t, c.block)
		h.ask(520, define(key(0), spaced(10, 40)))
		h.ask(520, define(key(1), window(20, 100)))
		h.ask(520, admit(key(0), 1))
		h.ask(520, admit(key(1), 2))
		h.disk.fall(lost)
		h.open()
		if got := h.send(0, query(key(0))); got != done(c.spaced, 0) {
			t.Errorf("P13: a block of %d: Spaced stands at %+v, want %d", c.block, got, c.spaced)
		}
		if got := h.send(0, query(key(1))); got != done(c.window, 5) {
			t.Errorf("P13: a block of %d: Window stands at %+v, want %d", c.block, got, c.window)
		}
		if got := h.ask(520, admit(key(1), 0)); got != admitted(c.window, 5) {
			t.Errorf("P10: 0 in a window that is full: %+v", got)
		}
	}
}

// TestFewReservations: what is covered asks nothing of the disk.
func TestFewReservations(t *testing.T) {
	h := newChecker(t, 100)
	h.ask(0, define(key(0), window(1000, 1<<40)))
	h.ask(0, define(key(1), spaced(1, 1000)))
	h.disk.fails(fault{at: -1})
	for i := range 1000 {
		h.ask(uint64(i), admit(key(0), 1))
		h.ask(0, admit(key(1), 1))
		h.ask(0, query(key(1)))
		h.ask(0, admit(key(1), 0))
		h.ask(0, admit(key(0), 1001))
	}
	if h.disk.calls > 4*10 {
		t.Errorf("P12: %d calls that write for 2000 that were let in by blocks of 100", h.disk.calls)
	}
}

// TestAClockThatGoesBackBehindAFall: no window is asked twice.
func TestAClockThatGoesBackBehindAFall(t *testing.T) {
	for _, block := range []uint64{0, 2, api.Never} {
		h := newChecker(t, block)
		h.ask(0, define(key(0), window(3, 10)))
		h.ask(0, define(key(1), spaced(10, 25)))
		for _, now := range []uint64{5, 25, 24, 0, 95, 40, 33, 200, 3} {
			h.ask(now, admit(key(0), 1))
			h.ask(now, admit(key(1), 1))
			h.disk.fall(lost)
			h.open()
			for _, back := range []uint64{0, now / 2, now} {
				h.ask(back, admit(key(0), 1))
				h.ask(back, admit(key(1), 1))
			}
		}
		h.checkAll()
	}
}

// TestTheNewTime: that of the last Done, or in the last window in which something was let in.
func TestTheNewTime(t *testing.T) {
	h := newChecker(t, 50)
	at := func(least, most uint64) {
		t.Helper()
		h.disk.fall(lost)
		h.open()
		if h.time < least || h.time > most {
			t.Errorf("P13: the new time is %d, want %d to %d", h.time, least, most)
		}
	}
	h.ask(30, clock)
	at(0, 30)
	h.ask(40, define(key(0), window(30, 100)))
	at(40, 40)
	h.ask(90, query(key(0)))
	at(40, 90)
	h.ask(250, admit(key(0), 1))
	at(200, 250)
	h.ask(370, admit(key(0), 0))
	at(200, 370)
	h.ask(380, snapshot)
	at(380, 380)
	h.ask(395, remove(key(0)))
	h.ask(999, remove(key(0)))
	at(395, 999)
}

// TestTwelveKeysAreKept: all of them, and no more behind a fall.
func TestTwelveKeysAreKept(t *testing.T) {
	h := newChecker(t, 3)
	for i := range byte(api.MaxKeys) {
		h.ask(uint64(i), define(key(i), api.Policy{Kind: 1 + i%2, X: uint64(i) + 1, Y: 50}))
		h.ask(uint64(i), admit(key(i), 1))
	}
	h.disk.fall(lost)
	h.open()
	if len(h.lives) != api.MaxKeys {
		t.Errorf("P13: %d keys", len(h.lives))
	}
	if got := h.ask(50, define(key(12), spaced(1, 1))); got != code(api.Full) {
		t.Errorf("P8: a key too many behind a fall: %+v", got)
	}
	h.ask(50, remove(key(3)))
	h.ask(50, define(key(12), spaced(1, 1)))
	h.disk.fall(lost)
	h.open()
	h.twice()
}

// TestTheSameIsWrittenForTheSameRequests: the bytes hang on no order of a map.
func TestTheSameIsWrittenForTheSameRequests(t *testing.T) {
	var first map[string]string
	for range 20 {
		h := newChecker(t, 3)
		for i := range byte(api.MaxKeys) {
			h.ask(uint64(i), define(key(i*5%api.MaxKeys), spaced(10, 50)))
		}
		if first == nil {
			first = h.disk.durable
		}
		if !maps.Equal(first, h.disk.durable) {
			t.Fatalf("the files are %x, and were %x", h.disk.durable, first)
		}
	}
}

// TestOtherFilesOfADisk: they are no ledger's, and stay as they are.
func TestOtherFilesOfADisk(t *testing.T) {
	h := newChecker(t, 3)
	h.others = map[string]string{"": "not a ledger's", "a": "nor this", "ledger": "nor this", "ledger.2": "nor this", "zz": "nor this"}
	maps.Copy(h.disk.durable, h.others)
	h.disk.fall(lost)
	h.open()
	tell(h, story())
	h.ask(900, snapshot)
	h.disk.fall(lost)
	h.open()
	for name, data := range h.others {
		if h.disk.durable[name] != data {
			t.Errorf("%q is %q, was %q", name, h.disk.durable[name], data)
		}
	}
}

// panicky is a disk that panics at each call that writes.
type panicky struct{ *memoryDisk }

func (panicky) Write(string, []byte) error  { panic("the disk") }
func (panicky) Append(string, []byte) error { panic("the disk") }
func (panicky) Remove(string) error         { panic("the disk") }
func (panicky) Sync() error                 { panic("the disk") }

func TestADiskThatPanicsIsDown(t *testing.T) {
	s, err := quotaledger.Open(panicky{newDisk()}, 5)
	if err != nil {
		t.Fatalf("P5: Open over an empty disk = %v", err)
	}
	out := s.Connect().Feed(3, requests(define(keyed, spaced(1, 1)), query(keyed), snapshot, clock))
	wantReplies(t, "over a disk that panics", out, []api.Reply{code(api.Unavailable), code(api.Unknown), code(api.Unavailable), done(3, 0)})
}

// TestAnyFalls: any requests over any policies with any blocks, the disk failing and falling in any way.
func TestAnyFalls(t *testing.T) {
	g := rand.New(rand.NewSource(20261116))
	seen := map[string]int{}
	for range 3000 {
		h := newChecker(t, []uint64{0, 1, 3, 20, 100, someNumber(g), api.Never}[g.Intn(7)])
		h.seen = seen
		clocks := uint64(g.Intn(3))
		for range 1 + g.Intn(8) {
			for range g.Intn(25) {
				clocks = anyTime(g, clocks)
				if g.Intn(8) == 0 {
					h.disk.fails(anyFault(g))
				}
				h.ask(clocks, anyRequest(g))
			}
			anyFall(g, h)
		}
		h.checkAll()
	}
	for _, what := range []string{"unavailable", "covered", "one define", "one delete", "one admit", "further on", "not opened", "snapshot"} {
		if seen[what] < 100 {
			t.Errorf("the draws ask too little: %s: %d", what, seen[what])
		}
	}
}

// anyFall: the ledger is left, with or without a fall, and opened anew, maybe at last.
func anyFall(g *rand.Rand, h *checker) {
	for {
		if h.disk.down || g.Intn(4) > 0 {
			h.disk.fall(func(i, bytes int) int { return []int{-1, g.Intn(bytes + 1), bytes}[g.Intn(3)] })
		}
		h.disk.fails(fault{at: -1})
		if g.Intn(3) == 0 {
			h.disk.fails(anyFault(g))
		}
		if h.open() {
			break
		}
	}
	h.disk.fails(fault{at: -1})
	if g.Intn(3) == 0 {
		h.twice()
	}
}

func anyFault(g *rand.Rand) fault {
	return fault{at: g.Intn(5), says: []error{api.ErrFull, api.ErrDown, errOdd}[g.Intn(3)], done: g.Intn(2) == 0, stays: g.Intn(2) == 0}
}

func anyTime(g *rand.Rand, now uint64) uint64 {
	if g.Intn(60) > 0 {
		return now - min(now, uint64(g.Intn(3))*uint64(g.Intn(9))) + min(api.Never-now, uint64(g.Intn(12)))
	}
	return laterTime(g, now)
}

func anyRequest(g *rand.Rand) api.Request {
	k := key(byte(g.Intn(3)))
	switch g.Intn(12) {
	case 0, 1, 2:
		if g.Intn(9) == 0 {
			return define(k, api.Policy{Kind: uint8(1 + g.Intn(2)), X: someNumber(g), Y: someNumber(g)})
		}
		return define(k, api.Policy{Kind: uint8(1 + g.Intn(2)), X: uint64(1 + g.Intn(9)), Y: uint64(1 + g.Intn(60))})
	case 3:
		return remove(k)
	case 4:
		return []api.Request{snapshot, clock, query(k)}[g.Intn(3)]
	}
	if g.Intn(20) == 0 {
		return admit(k, someNumber(g))
	}
	return admit(k, uint64(g.Intn(4)))
}
