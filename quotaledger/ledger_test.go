package quotaledger_test

import (
	"errors"
	"testing"

	"quotaledger/api"
	"quotaledger/quotaledger"
)

func TestOpenOverAnEmptyDiskHasNoKeysAtTheTime0(t *testing.T) {
	for _, block := range []uint64{0, 1, 7, api.Never} {
		l := openBlock(t, block)
		l.want(0, clock, done(0, 0))
		for _, k := range []api.Key{{}, {'a'}, keyed} {
			l.want(0, query(k), code(api.Unknown))
		}
		if n := l.s.Admitted(); n != 0 {
			t.Errorf("P16: Admitted() = %d of a ledger that was just opened", n)
		}
	}
}

func TestOpenSaysWhatTheDiskSays(t *testing.T) {
	for _, says := range []error{api.ErrDown, api.ErrFull, api.ErrNone, errors.New("of no number")} {
		d := newDisk()
		d.says = says
		if s, err := quotaledger.Open(d, 7); s != nil || err != says {
			t.Errorf("P5: Open over a disk that says %v = %v, %v", says, s, err)
		}
	}
}

func TestOpenOverADiskThatIsNotThere(t *testing.T) {
	var none *memoryDisk
	for _, d := range []api.Disk{nil, none} {
		if s, err := quotaledger.Open(d, 7); s != nil || err != api.ErrDown {
			t.Errorf("P1: Open over no disk = %v, %v", s, err)
		}
	}
}

func TestLedgersAndConnectionsThatNobodyOpened(t *testing.T) {
	var s *quotaledger.Server
	var c *quotaledger.Conn
	ask := requests(define(keyed, spaced(1, 1)), clock)
	for _, b := range [][]byte{c.Feed(3, ask), new(quotaledger.Conn).Feed(3, ask), s.Connect().Feed(3, ask)} {
		if b != nil {
			t.Errorf("P1: without a ledger the replies %x", b)
		}
	}
	if n := s.Admitted(); n != 0 {
		t.Errorf("P1: without a ledger %d were let in", n)
	}
	if got := readAll(t, new(quotaledger.Server).Connect().Feed(3, ask)); len(got) != 2 {
		t.Errorf("P1: of a ledger that was not opened the replies %+v", got)
	}
}

func TestDefineTakesEachPolicyThatThereIs(t *testing.T) {
	for _, p := range []api.Policy{spaced(1, 0), spaced(1, api.Never), spaced(api.Never, 0), window(0, 1), window(api.Never, 1), window(0, api.Never), window(3, 10)} {
		l := openLedger(t)
		l.want(5, define(keyed, p), done(0, 0))
		if r := l.ask(5, query(keyed)); r.Code != api.Done || r.A != 0 {
			t.Errorf("P8: a key of %+v stands at %+v", p, r)
		}
	}
}

func TestDefineOfNoSuchPolicy(t *testing.T) {
	l := openLedger(t)
	wrong := []api.Policy{{}, spaced(0, 0), spaced(0, 5), spaced(0, api.Never), window(0, 0), window(5, 0), window(api.Never, 0)}
	for kind := range 256 {
		if kind != api.Spaced && kind != api.Window {
			wrong = append(wrong, api.Policy{Kind: uint8(kind), X: 1, Y: 1})
		}
	}
	for _, p := range wrong {
		l.want(1, define(keyed, p), code(api.BadPolicy))
		l.want(1, query(keyed), code(api.Unknown))
	}
}

func TestDefineOfAKeyThatThereIsLeavesIt(t *testing.T) {
	l := openLedger(t)
	l.want(0, define(keyed, spaced(10, 25)), done(0, 0))
	l.want(0, admit(keyed, 2), admitted(20, 0))
	l.want(0, define(keyed, window(3, 10)), code(api.Exists))
	l.want(0, define(keyed, spaced(10, 25)), code(api.Exists))
	l.want(0, query(keyed), done(20, 0))
	l.want(0, admit(keyed, 1), admitted(30, 0))
}

// TestTwelveKeysAndNoMore: and which of several faults is told: the policy's ahead of the key's ahead of the ledger's.
func TestTwelveKeysAndNoMore(t *testing.T) {
	l := openLedger(t)
	thirteenth := api.Key{0, 0, 0, 0, 0, 0, 0, api.MaxKeys}
	for i := range api.MaxKeys {
		l.want(0, define(api.Key{0, 0, 0, 0, 0, 0, 0, byte(i)}, window(uint64(i), 5)), done(0, 0))
	}
	l.want(0, define(thirteenth, window(1, 5)), code(api.Full))
	l.want(0, query(thirteenth), code(api.Unknown))
	l.want(0, define(api.Key{}, window(1, 5)), code(api.Exists))
	l.want(0, define(api.Key{}, window(1, 0)), code(api.BadPolicy))
	l.want(0, define(thirteenth, spaced(0, 1)), code(api.BadPolicy))
	l.want(0, remove(thirteenth), code(api.Unknown))
	l.want(0, define(thirteenth, window(1, 5)), code(api.Full))
	l.want(0, remove(api.Key{}), done(0, 0))
	l.want(0, define(thirteenth, window(1, 5)), done(0, 0))
	l.want(0, define(api.Key{}, window(1, 5)), code(api.Full))
	l.want(0, admit(api.Key{0, 0, 0, 0, 0, 0, 0, 3}, 3), admitted(3, 0))
}

func TestKeysThatThereAreNot(t *testing.T) {
	l := openLedger(t)
	l.want(0, define(keyed, spaced(10, 25)), done(0, 0))
	for i := range keyed {
		near := keyed
		near[i]++
		for _, r := range []api.Request{admit(near, 0), admit(near, 1), query(near), remove(near)} {
			l.want(0, r, code(api.Unknown))
		}
	}
	l.want(0, query(keyed), done(0, 0))
}

func TestKeysStandEachForItself(t *testing.T) {
	l := openLedger(t)
	a, b, c := api.Key{'a'}, api.Key{'b'}, api.Key{7: 'a'}
	l.want(0, define(a, spaced(10, 25)), done(0, 0))
	l.want(0, define(b, window(3, 10)), done(0, 0))
	l.want(0, define(c, spaced(10, 25)), done(0, 0))
	l.want(0, admit(a, 3), admitted(30, 0))
	l.want(0, admit(b, 2), admitted(2, 0))
	l.want(0, query(c), done(0, 0))
	l.want(0, remove(a), done(0, 0))
	l.want(0, query(b), done(2, 0))
	l.want(0, admit(c, 1), admitted(10, 0))
}

func TestAKeyThatWasDeletedAndDefinedAnewStandsAt0(t *testing.T) {
	l := openLedger(t)
	l.want(4, define(keyed, spaced(10, 25)), done(0, 0))
	l.want(4, admit(keyed, 3), admitted(34, 0))
	l.want(4, remove(keyed), done(0, 0))
	for _, r := range []api.Request{admit(keyed, 0), query(keyed), remove(keyed)} {
		l.want(4, r, code(api.Unknown))
	}
	l.want(4, define(keyed, spaced(10, 25)), done(0, 0))
	l.want(4, query(keyed), done(0, 0))
	l.want(4, admit(keyed, 0), admitted(0, 0))
	l.want(4, remove(keyed), done(0, 0))
	l.want(44, define(keyed, window(3, 10)), done(0, 0))
	l.want(44, admit(keyed, 3), admitted(3, 4))
	l.want(44, remove(keyed), done(0, 0))
	l.want(44, define(keyed, window(3, 10)), done(0, 0))
	l.want(44, query(keyed), done(0, 4))
	l.want(44, admit(keyed, 3), admitted(3, 4))
}

func TestSnapshotTurnsNothing(t *testing.T) {
	l := openLedger(t)
	a, b := api.Key{'a'}, api.Key{'b'}
	l.want(3, snapshot, done(0, 0))
	l.want(23, define(a, spaced(10, 25)), done(0, 0))
	l.want(23, define(b, window(3, 10)), done(0, 0))
	l.want(23, admit(a, 2), admitted(43, 0))
	l.want(23, admit(b, 2), admitted(2, 2))
	l.want(23, snapshot, done(0, 0))
	l.want(23, query(a), done(43, 0))
	l.want(23, query(b), done(2, 2))
	l.want(23, clock, done(23, 0))
	if n := l.s.Admitted(); n != 4 {
		t.Errorf("P16: Admitted() = %d behind a Snapshot, want 4", n)
	}
}

func TestAdmittedCountsWhatWasLetIn(t *testing.T) {
	l := openLedger(t)
	other := openLedger(t)
	counts := func(n uint64) {
		t.Helper()
		if got := l.s.Admitted(); got != n {
			t.Errorf("P16: Admitted() = %d, want %d", got, n)
		}
	}
	l.want(0, define(keyed, window(5, 10)), done(0, 0))
	l.want(0, define(api.Key{'a'}, spaced(10, 25)), done(0, 0))
	counts(0)
	l.want(0, admit(keyed, 4), admitted(4, 0))
	counts(4)
	l.want(0, admit(keyed, 2), denied(10))
	l.want(0, admit(keyed, 6), denied(api.Never))
	l.want(0, admit(api.Key{'b'}, 3), code(api.Unknown))
	l.want(0, admit(keyed, 0), admitted(4, 0))
	l.want(0, query(keyed), done(4, 0))
	counts(4)
	l.want(0, admit(api.Key{'a'}, 2), admitted(20, 0))
	l.want(10, admit(keyed, 5), admitted(5, 1))
	counts(11)
	l.want(10, remove(keyed), done(0, 0))
	counts(11)
	if n := other.s.Admitted(); n != 0 {
		t.Errorf("P2: another ledger let in %d", n)
	}
}

func TestAdmittedWrapsAround(t *testing.T) {
	l := openLedger(t)
	l.want(0, define(keyed, window(api.Never, 1)), done(0, 0))
	l.want(0, admit(keyed, api.Never), admitted(api.Never, 0))
	if n := l.s.Admitted(); n != api.Never {
		t.Errorf("P16: Admitted() = %d, want %d", n, uint64(api.Never))
	}
	l.want(1, admit(keyed, 1), admitted(1, 1))
	if n := l.s.Admitted(); n != 0 {
		t.Errorf("P16: Admitted() = %d, want it to wrap around to 0", n)
	}
	l.want(2, admit(keyed, api.Never-4), admitted(api.Never-4, 2))
	l.want(3, admit(keyed, 12), admitted(12, 3))
	if n := l.s.Admitted(); n != 7 {
		t.Errorf("P16: Admitted() = %d, want it to wrap around to 7", n)
	}
}

func TestLedgersKnowNothingOfOneAnother(t *testing.T) {
	l, other := openLedger(t), openLedger(t)
	l.want(30, define(keyed, spaced(10, 25)), done(0, 0))
	other.want(2, clock, done(2, 0))
	other.want(2, query(keyed), code(api.Unknown))
	other.want(2, define(keyed, window(1, 1)), done(0, 0))
	l.want(30, admit(keyed, 1), admitted(40, 0))
	other.want(2, query(keyed), done(0, 2))
}
