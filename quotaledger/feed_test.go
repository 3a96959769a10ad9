package quotaledger_test

import (
	"bytes"
	"math/rand"
	"sync"
	"testing"

	"quotaledger/api"
	"quotaledger/quotaledger"
)

func TestFeedOfNothingAnswersNil(t *testing.T) {
	l := openLedger(t)
	for _, b := range [][]byte{nil, {}, {0x11}, {0x02}} {
		if got := l.c.Feed(1, b); got != nil {
			t.Errorf("P2: Feed(%x) = %#v, want nil", b, got)
		}
	}
}

func TestTheTimeIsWhatTheClockSaysIfThatIsMore(t *testing.T) {
	l := openLedger(t)
	other := l.s.Connect()
	l.want(0, clock, done(0, 0))
	l.c.Feed(9, nil)
	l.want(0, clock, done(9, 0))
	other.Feed(12, []byte{})
	l.want(3, clock, done(12, 0))
	other.Feed(14, []byte{0x01})
	l.want(11, clock, done(14, 0))
	other.Feed(2, []byte{0x06})
	l.want(14, clock, done(14, 0))
	l.want(15, clock, done(15, 0))
	l.want(1<<63, clock, done(1<<63, 0))
	l.want(1<<63-1, clock, done(1<<63, 0))
	l.want(api.Never, clock, done(api.Never, 0))
	l.want(0, clock, done(api.Never, 0))
}

// TestTheTimeComesAheadOfTheRequests: also of one whose beginning came at an earlier time.
func TestTheTimeComesAheadOfTheRequests(t *testing.T) {
	l := openLedger(t)
	l.want(0, define(keyed, window(3, 10)), done(0, 0))
	ask := requests(admit(keyed, 2))
	l.c.Feed(9, ask[:5])
	if got := readAll(t, l.c.Feed(10, ask[5:])); len(got) != 1 || got[0] != admitted(2, 1) {
		t.Errorf("P6: %+v", got)
	}
}

// script is requests of every kind, and their replies at the time 4.
func script() ([]byte, []api.Reply) {
	b := requests(
		define(keyed, window(3, 9)), define(keyed, window(3, 9)), admit(keyed, 2), admit(keyed, 2), clock, query(keyed), snapshot,
		define(api.Key{'a'}, spaced(10, 25)), admit(api.Key{'a'}, 3), query(api.Key{'a'}), remove(api.Key{'a'}), query(api.Key{'a'}), define(api.Key{'b'}, api.Policy{}))
	return b, []api.Reply{
		done(0, 0), code(api.Exists), admitted(2, 0), denied(9), done(4, 0), done(2, 0), done(0, 0),
		done(0, 0), admitted(34, 0), done(34, 0), done(0, 0), code(api.Unknown), code(api.BadPolicy)}
}

func wantReplies(t *testing.T, what string, b []byte, want []api.Reply) {
	t.Helper()
	got := readAll(t, b)
	if len(got) != len(want) {
		t.Fatalf("P6: %s: %d replies %+v, want %d", what, len(got), got, len(want))
	}
	for i := range want {
		if got[i] != want[i] {
			t.Errorf("P6: %s: reply %d is %+v, want %+v", what, i, got[i], want[i])
		}
	}
}

// spoil writes into bytes that were handed in: a ledger must have no eye on them any more (P2).
func spoil(b []byte) {
	for i := range b {
		b[i] = '!'
	}
}

func feedSpoiled(c *quotaledger.Conn, now uint64, b []byte) []byte {
	own := bytes.Clone(b)
	out := c.Feed(now, own)
	spoil(own)
	return out
}

func TestManyRequestsAtOnce(t *testing.T) {
	b, want := script()
	wantReplies(t, "at once", openLedger(t).c.Feed(4, b), want)
}

func TestFramesInTwoPieces(t *testing.T) {
	b, want := script()
	for cut := range len(b) + 1 {
		l := openLedger(t)
		out := feedSpoiled(l.c, 4, b[:cut])
		out = append(out, feedSpoiled(l.c, 4, nil)...)
		out = append(out, feedSpoiled(l.c, 4, b[cut:])...)
		wantReplies(t, "in two pieces", out, want)
	}
}

// TestARequestIsDoneWhenItsLastByteComes: and not ahead of it.
func TestARequestIsDoneWhenItsLastByteComes(t *testing.T) {
	l := openLedger(t)
	b, want := script()
	ends := map[int]int{}
	for at := 0; at < len(b); {
		_, n, err := quotaledger.ReadRequest(b[at:])
		if err != nil {
			t.Fatal(err)
		}
		at += n
		ends[at] = 1
	}
	var out []byte
	for i := range b {
		got := feedSpoiled(l.c, 4, b[i:i+1])
		if len(got) != 18*ends[i+1] {
			t.Errorf("P6: behind %d bytes the reply %x", i+1, got)
		}
		out = append(out, got...)
	}
	wantReplies(t, "byte by byte", out, want)
}

func TestPiecesOfSeveralConnectionsAreNotMixed(t *testing.T) {
	l := openLedger(t)
	l.want(0, define(keyed, window(1000, 1000)), done(0, 0))
	conns := []*quotaledger.Conn{l.s.Connect(), l.s.Connect(), l.s.Connect()}
	asks := [][]byte{requests(admit(keyed, 1), admit(keyed, 1)), requests(admit(keyed, 10), clock), requests(query(api.Key{}), admit(keyed, 100))}
	outs := make([][]byte, len(conns))
	for i := range 40 {
		for k, ask := range asks {
			if i < len(ask) {
				outs[k] = append(outs[k], feedSpoiled(conns[k], 5, ask[i:i+1])...)
			}
		}
	}
	wantReplies(t, "the first", outs[0], []api.Reply{admitted(1, 0), admitted(112, 0)})
	wantReplies(t, "the second", outs[1], []api.Reply{admitted(11, 0), done(5, 0)})
	wantReplies(t, "the third", outs[2], []api.Reply{code(api.Unknown), admitted(111, 0)})
}

func TestBytesThatAreNoFrame(t *testing.T) {
	for _, bad := range []string{"00", "1b", "ff", "0206", "0100", "0107", "1a02", "1901", "1103", "0906", "00ffff", "0001"} {
		l := openLedger(t)
		l.want(0, define(keyed, window(9, 10)), done(0, 0))
		b := append(requests(admit(keyed, 1), admit(keyed, 2)), unhex(t, bad)...)
		b = append(b, requests(admit(keyed, 3), clock)...)
		wantReplies(t, "with "+bad, l.c.Feed(1, b), []api.Reply{admitted(1, 0), admitted(3, 0), code(api.BadFrame)})
		for _, behind := range [][]byte{requests(admit(keyed, 1)), unhex(t, bad), nil, b} {
			if got := l.c.Feed(15, behind); got != nil {
				t.Errorf("P7: behind %s: Feed(%x) = %x", bad, behind, got)
			}
		}
		l.c = l.s.Connect()
		l.want(2, clock, done(15, 0))
		l.want(2, query(keyed), done(0, 1))
		if n := l.s.Admitted(); n != 3 {
			t.Errorf("P7, P16: Admitted() = %d with %s, want 3", n, bad)
		}
	}
}

// TestBytesThatAreNoFrameInPieces: a byte that may begin a frame waits; the second tells.
func TestBytesThatAreNoFrameInPieces(t *testing.T) {
	l := openLedger(t)
	if got := l.c.Feed(1, []byte{0x05}); got != nil {
		t.Errorf("P4, P6: one byte that may be the first of a frame: %x", got)
	}
	wantReplies(t, "a second byte", l.c.Feed(1, []byte{0x05}), []api.Reply{code(api.BadFrame)})
	if got := l.c.Feed(8, requests(clock)); got != nil {
		t.Errorf("P7: behind it: %x", got)
	}
	other := l.s.Connect()
	wantReplies(t, "another connection", other.Feed(2, requests(clock)), []api.Reply{done(8, 0)})
	wantReplies(t, "another connection's", other.Feed(2, []byte{0}), []api.Reply{code(api.BadFrame)})
}

func TestRepliesAreTheCallers(t *testing.T) {
	l := openLedger(t)
	b, want := script()
	out := l.c.Feed(4, b)
	spare := out[:cap(out)]
	wantReplies(t, "at first", out, want)
	kept := bytes.Clone(out)
	more := l.c.Feed(4, requests(clock, query(keyed)))
	if !bytes.Equal(out, kept) {
		t.Errorf("P2: later replies were written into earlier ones")
	}
	spoil(spare)
	wantReplies(t, "later", more, []api.Reply{done(4, 0), done(2, 0)})
	l.want(4, query(keyed), done(2, 0))
	if whole, _ := script(); !bytes.Equal(b, whole) {
		t.Errorf("P2: the bytes that were handed in were written into")
	}
}

// TestWhatWaitsIsNotWrittenInto: bytes behind those that are handed in are the caller's too.
func TestWhatWaitsIsNotWrittenInto(t *testing.T) {
	l := openLedger(t)
	whole := append(requests(clock), requests(define(keyed, spaced(1, 1)))...)
	kept := bytes.Clone(whole)
	l.c.Feed(1, whole[:5])
	l.c.Feed(1, []byte{1, 2, 3})
	if !bytes.Equal(whole, kept) {
		t.Errorf("P2: the caller's bytes are %x, were %x", whole, kept)
	}
}

// TestAnyBytes: no call panics, and what comes out is replies, in whatever pieces the bytes come (P1).
func TestAnyBytes(t *testing.T) {
	g := rand.New(rand.NewSource(7))
	for range 2000 {
		whole, pieces := openLedger(t), openLedger(t)
		b := someBytes(g)
		out := whole.c.Feed(4, b)
		readAll(t, out)
		var in []byte
		for rest := b; len(rest) > 0; {
			n := 1 + g.Intn(len(rest))
			in = append(in, feedSpoiled(pieces.c, 4, rest[:n])...)
			rest = rest[n:]
		}
		if !bytes.Equal(in, out) {
			t.Fatalf("P6: %x at once: %x; in pieces: %x", b, out, in)
		}
	}
}

// someBytes is requests of any numbers, now and then with a byte that is wrong.
func someBytes(g *rand.Rand) []byte {
	var b []byte
	for range g.Intn(12) {
		r := api.Request{Op: uint8(1 + g.Intn(6)), Key: api.Key{byte(g.Intn(2))}, N: someNumber(g)}
		r.Policy = api.Policy{Kind: uint8(g.Intn(4)), X: someNumber(g), Y: someNumber(g)}
		b = append(b, quotaledger.Request(r)...)
	}
	if len(b) > 0 && g.Intn(3) == 0 {
		b[g.Intn(len(b))] = byte(g.Intn(256))
	}
	return b
}

// TestManyGoroutines: each by a connection of its own and all by one, at the same time: nothing is lost and no more let in than the policy allows (P2).
func TestManyGoroutines(t *testing.T) {
	const workers, turns, room = 8, 200, 1000
	l := openLedger(t)
	l.want(0, define(keyed, window(room, 1)), done(0, 0))
	shared := l.s.Connect()
	outs := make([][]byte, workers)
	var all sync.WaitGroup
	for w := range workers {
		all.Add(1)
		go func() {
			defer all.Done()
			own := l.s.Connect()
			mine := api.Key{1: byte(w)}
			for i := range turns {
				outs[w] = append(outs[w], own.Feed(0, requests(admit(keyed, 1)))...)
				outs[w] = append(outs[w], shared.Feed(0, requests(admit(keyed, 1)))...)
				own.Feed(0, requests(define(mine, spaced(1, uint64(i))), query(mine), remove(mine), snapshot))
				l.s.Admitted()
			}
		}()
	}
	all.Wait()
	in, out := map[uint64]int{}, 0
	for _, b := range outs {
		for _, r := range readAll(t, b) {
			if r.Code == api.Admitted {
				in[r.A]++
			} else {
				out++
			}
		}
	}
	if len(in) != room || out != 2*workers*turns-room || l.s.Admitted() != room {
		t.Errorf("P2: %d let in, at %d counts, %d not, want %d and %d", l.s.Admitted(), len(in), out, room, 2*workers*turns-room)
	}
	l.want(0, query(keyed), done(room, 0))
}
