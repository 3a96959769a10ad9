package quotaledger_test

import (
	"testing"

	"quotaledger/api"
	"quotaledger/quotaledger"
)

// books are what a Snapshot may find: no keys, some of both kinds, and twelve, with none, one or two files of a ledger.
func books() map[string][]step {
	some := []step{
		{now: 500, r: define(key(0), spaced(10, 40))}, {now: 510, r: define(key(1), window(20, 100))},
		{now: 520, r: admit(key(0), 2)}, {now: 520, r: admit(key(1), 9)}, {now: 530, r: define(key(2), window(9, 7))}, {now: 531, r: remove(key(2))},
	}
	var twelve []step
	for i := range byte(api.MaxKeys) {
		twelve = append(twelve, step{now: uint64(i), r: define(key(i), api.Policy{Kind: 1 + i%2, X: uint64(i) + 1, Y: 50})}, step{now: uint64(i), r: admit(key(i), 1)})
	}
	again := step{now: 540, r: snapshot}
	return map[string][]step{
		"no files": nil, "no keys": {{now: 3, r: snapshot}}, "no keys, two files": {{now: 3, r: define(key(0), spaced(1, 1))}, {now: 4, r: remove(key(0))}},
		"one key, one file": {{now: 3, r: define(key(0), spaced(1, 1))}}, "some keys": some, "some keys, one file": append(some, again),
		"twelve keys": twelve, "twelve keys, one file": append(twelve, again),
	}
}

// behindASnapshot: what was asked ahead of it may be asked on, and all is as the document says.
func behindASnapshot(h *checker) {
	for i := range byte(2) {
		h.ask(601, define(key(i), window(7, 10)))
		h.ask(602, admit(key(i), 1))
	}
	h.ask(603, remove(key(0)))
	h.ask(604, snapshot)
	h.ask(605, admit(key(1), 3))
	h.disk.fall(lost)
	h.open()
	h.checkAll()
}

func TestSnapshotsBetweenRequests(t *testing.T) {
	for _, block := range []uint64{0, 5, api.Never} {
		for every := range 4 {
			h := newChecker(t, block)
			for i, s := range story() {
				h.ask(s.now, s.r)
				if i%(every+1) == 0 {
					h.ask(s.now+1, snapshot)
				}
				if i%3 == 0 {
					h.disk.fall(lost)
					h.open()
					h.twice()
				}
			}
			h.checkAll()
		}
	}
}

// TestASnapshotOfEachBook: it is Done, the new time is its own, and all keys are there.
func TestASnapshotOfEachBook(t *testing.T) {
	for what, steps := range books() {
		h := newChecker(t, 5)
		tell(h, steps)
		keys := len(h.lives)
		for now := uint64(600); now < 603; now++ {
			if got := h.ask(now, snapshot); got != done(0, 0) {
				t.Fatalf("P11: a Snapshot of %s: %+v", what, got)
			}
			h.disk.fall(lost)
			h.open()
			if h.time != now || len(h.lives) != keys {
				t.Errorf("P13, P15: behind a Snapshot of %s at %d the time is %d, and there are %d keys", what, now, h.time, len(h.lives))
			}
			h.twice()
		}
		behindASnapshot(h)
	}
}

// TestASnapshotFallsAtEachCall: at each of them, in each way, nothing, a beginning or all being kept of what was not durable.
func TestASnapshotFallsAtEachCall(t *testing.T) {
	hit := map[int]int{}
	for what, steps := range books() {
		for _, f := range faults(snapshot) {
			for _, keeps := range []int{-1, 0, 1, 9, 25, 66, 67, 516, 517, 1 << 20} {
				h := newChecker(t, 5)
				tell(h, steps)
				keys := len(h.lives)
				h.disk.fails(f)
				got := h.ask(600, snapshot)
				failed := h.disk.calls > f.at
				if failed != (got == code(api.Unavailable)) {
					t.Fatalf("P12: a Snapshot of %s over a disk with %+v: %+v", what, f, got)
				}
				if failed {
					hit[f.at]++
				}
				h.ask(600, admit(key(0), 1))
				h.disk.fall(func(_, bytes int) int { return min(keeps, bytes) })
				h.open()
				h.twice()
				if len(h.lives) != keys {
					t.Fatalf("P15: of %s there are %d keys behind a fall", what, len(h.lives))
				}
				if got := h.ask(600, snapshot); got != done(0, 0) {
					t.Fatalf("P15: a Snapshot behind a fall: %+v", got)
				}
				behindASnapshot(h)
			}
		}
	}
	for at := range 4 {
		if hit[at] == 0 {
			t.Errorf("the disk never failed at call %d of a Snapshot", at)
		}
	}
}

// TestEachBeginningOfASnapshot: of what a Snapshot of twelve keys wrote any number of bytes is kept; not until it is whole it holds.
func TestEachBeginningOfASnapshot(t *testing.T) {
	size := 1
	for n := 0; n <= size; n++ {
		h := newChecker(t, 5)
		tell(h, books()["twelve keys"])
		h.disk.fails(fault{at: 1, says: api.ErrDown, stays: true})
		h.ask(600, snapshot)
		size = len(h.disk.pending[0].data)
		h.disk.fall(func(_, bytes int) int { return min(n, bytes) })
		h.open()
		if holds := h.time == 600; holds != (n >= size) {
			t.Errorf("P13: %d bytes of %d: the time is %d", n, size, h.time)
		}
		h.twice()
	}
}

// TestASnapshotKeepsWhatIsReserved: what it covered ahead needs no disk behind it, and it stands no further on.
func TestASnapshotKeepsWhatIsReserved(t *testing.T) {
	h := newChecker(t, 100)
	h.ask(10, define(key(0), window(1000, 1000)))
	h.ask(10, define(key(1), spaced(1, 1000)))
	h.ask(10, admit(key(0), 1))
	h.ask(10, admit(key(1), 1))
	for range 10 {
		h.ask(10, snapshot)
		h.disk.fails(fault{at: -1})
		h.ask(10, admit(key(0), 10))
		h.ask(10, admit(key(1), 10))
		if h.disk.calls > 0 {
			t.Errorf("P15: behind a Snapshot what was reserved is no more: %d calls that write", h.disk.calls)
		}
	}
	h.ask(10, snapshot)
	h.disk.fall(lost)
	h.open()
	for k, want := range []uint64{101, 111} {
		if got := h.send(0, query(key(byte(k)))); got != done(want, 0) {
			t.Errorf("P13: behind Snapshots key %d stands at %+v, want %d", k, got, want)
		}
	}
}

// TestADiskDoesNotGrow: whatever is asked between Snapshots, and if nothing is.
func TestADiskDoesNotGrow(t *testing.T) {
	size := func(h *checker) int {
		n := 0
		for name, data := range h.disk.durable {
			n += len(name) + len(data)
		}
		return n
	}
	for _, between := range []int{0, 1, 7, 30} {
		h := newChecker(t, 0)
		most, first := 0, 0
		for i := range 500 {
			for j := range between {
				k := key(byte((i + j) % api.MaxKeys))
				h.ask(uint64(i), []api.Request{define(k, window(1<<40, 1<<40)), admit(k, 1), remove(k)}[(i+j*j)%3])
			}
			h.ask(uint64(i), snapshot)
			most = max(most, size(h))
			if i == 50 {
				first = most
			}
		}
		if most > first+600 {
			t.Errorf("P15: with %d requests between Snapshots the disk has %d bytes, and had %d at the most behind 50", between, most, first)
		}
	}
}

// TestASnapshotOfALedgerThatNobodyOpened: it has nothing to be written on.
func TestASnapshotOfALedgerThatNobodyOpened(t *testing.T) {
	c := new(quotaledger.Server).Connect()
	wantReplies(t, "P1: without a disk", c.Feed(3, requests(snapshot, clock, snapshot)), []api.Reply{code(api.Unavailable), done(3, 0), code(api.Unavailable)})
}
