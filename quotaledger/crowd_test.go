package quotaledger_test

import (
	"bytes"
	"runtime"
	"slices"
	"sync"
	"testing"
	"time"

	"quotaledger/api"
	"quotaledger/quotaledger"
)

// crowd: the replies of each stream. The streams must be as they were behind the call, and are written into then.
func crowd(t *testing.T, s *quotaledger.Server, now uint64, streams ...[]byte) [][]byte {
	t.Helper()
	var own [][]byte
	for _, b := range streams {
		own = append(own, slices.Clone(b))
	}
	out := quotaledger.Crowd(s, now, own)
	if len(out) != len(streams) {
		t.Fatalf("P17: %d streams have %d lists of replies", len(streams), len(out))
	}
	for i, b := range own {
		if !bytes.Equal(b, streams[i]) {
			t.Errorf("P2: stream %d is %x, was %x", i, b, streams[i])
		}
		spoil(b)
		if out[i] != nil && len(out[i]) == 0 {
			t.Errorf("P2: the replies of stream %d are empty, and not nil", i)
		}
	}
	return out
}

func repeated(n int, r api.Request) []byte { return bytes.Repeat(quotaledger.Request(r), n) }

// TestACrowdOfKeysOfTheirOwn: each stream has the replies that it would have alone.
func TestACrowdOfKeysOfTheirOwn(t *testing.T) {
	var streams, want [][]byte
	for i := range byte(api.MaxKeys) {
		k, other := key(i), key(i+api.MaxKeys)
		p := api.Policy{Kind: 1 + i%2, X: 10, Y: 25}
		b := slices.Concat(requests(query(k), define(k, p), define(k, p), define(other, window(1, 0))), repeated(50, admit(k, 1)),
			requests(admit(k, 0), admit(k, 99), query(k), clock, admit(other, 1), remove(other), snapshot))
		if i%3 == 0 {
			b = append(b, requests(remove(k), query(k), define(k, p), admit(k, 2))...)
		}
		streams = append(streams, b)
		want = append(want, openLedger(t).s.Connect().Feed(1000, b))
	}
	for range 20 {
		s := openLedger(t).s
		for i, out := range crowd(t, s, 1000, streams...) {
			if !bytes.Equal(out, want[i]) {
				t.Fatalf("P17: the replies of stream %d are %x, want %x", i, out, want[i])
			}
		}
	}
}

// oneByOne: the streams ask for one each of the one key: how many are let in, each further on than the last, and the rest is denied.
func oneByOne(t *testing.T, outs [][]byte, step uint64, refused api.Reply) uint64 {
	t.Helper()
	var stood []uint64
	for i, b := range outs {
		last := uint64(0)
		for _, r := range readAll(t, b) {
			if r == refused {
				continue
			}
			if r.Code != api.Admitted || r.A <= last {
				t.Fatalf("P17: in stream %d: %+v behind %d", i, r, last)
			}
			last = r.A
			stood = append(stood, r.A)
		}
	}
	slices.Sort(stood)
	for i, a := range stood {
		if a != step*uint64(i+1) {
			t.Fatalf("P17: not done one by one: they stood at %v", stood)
		}
	}
	return uint64(len(stood))
}

func TestACrowdOfOneKey(t *testing.T) {
	for range 20 {
		l := openLedger(t)
		l.want(0, define(key(0), window(100, 10)), done(0, 0))
		l.want(0, define(key(1), spaced(2, 198)), done(0, 0))
		streams := make([][]byte, 30)
		for i := range streams {
			streams[i] = repeated(10, admit(key(0), 1))
		}
		if n := oneByOne(t, crowd(t, l.s, 0, streams...), 1, denied(10)); n != 100 || l.s.Admitted() != 100 {
			t.Fatalf("P17: %d were let in, and Admitted() = %d, want 100", n, l.s.Admitted())
		}
		for i := range streams {
			streams[i] = repeated(10, admit(key(1), 1))
		}
		if n := oneByOne(t, crowd(t, l.s, 0, streams...), 2, denied(2)); n != 100 || l.s.Admitted() != 200 {
			t.Fatalf("P17: %d were let in, and Admitted() = %d, want 100 more", n, l.s.Admitted())
		}
		l.want(0, query(key(0)), done(100, 0))
		l.want(0, query(key(1)), done(200, 0))
	}
}

// TestACrowdThatDefinesAndDeletesOneKey: it is there if it was defined more often than deleted.
func TestACrowdThatDefinesAndDeletesOneKey(t *testing.T) {
	l := openLedger(t)
	streams := make([][]byte, 20)
	for i := range streams {
		streams[i] = requests(define(keyed, spaced(1, 1)), remove(keyed), define(keyed, window(1, 1)))
		if i%2 == 0 {
			streams[i] = requests(remove(keyed), define(keyed, spaced(1, 1)), remove(keyed))
		}
	}
	there := 0
	for i, b := range crowd(t, l.s, 0, streams...) {
		replies := readAll(t, b)
		if len(replies) != 3 {
			t.Fatalf("P17: the replies %+v", replies)
		}
		for j, r := range replies {
			defines := i%2 == 1 && j != 1 || i%2 == 0 && j == 1
			switch {
			case defines && r == done(0, 0):
				there++
			case !defines && r == done(0, 0):
				there--
			case defines && r != code(api.Exists) || !defines && r != code(api.Unknown):
				t.Errorf("P17: stream %d, reply %d: %+v", i, j, r)
			}
		}
	}
	got := l.ask(0, query(keyed))
	if there != 0 && there != 1 || (got.Code == api.Done) != (there == 1) {
		t.Errorf("P17: defined %d times more than deleted, it is %+v", there, got)
	}
}

func TestACrowdOfNoStreams(t *testing.T) {
	l := openLedger(t)
	l.want(5, clock, done(5, 0))
	for _, none := range [][][]byte{nil, {}} {
		if out := quotaledger.Crowd(l.s, 25, none); out != nil {
			t.Errorf("P17: Crowd of nothing = %v, want nil", out)
		}
	}
	l.want(0, clock, done(5, 0))
}

// TestEmptyStreams: they have no replies, but the clock is told by each.
func TestEmptyStreams(t *testing.T) {
	l := openLedger(t)
	for i, out := range crowd(t, l.s, 25, nil, []byte{}, nil) {
		if out != nil {
			t.Errorf("P17: an empty stream %d has the replies %x", i, out)
		}
	}
	l.want(0, clock, done(25, 0))
	out := crowd(t, l.s, 30, nil, requests(clock), nil, requests(clock, clock), []byte{})
	for i, want := range [][]api.Reply{nil, {done(30, 0)}, nil, {done(30, 0), done(30, 0)}, nil} {
		wantReplies(t, "beside empty streams", out[i], want)
	}
}

func TestTheClockOfACrowd(t *testing.T) {
	l := openLedger(t)
	l.want(10, define(keyed, window(1000, 10)), done(0, 0))
	for _, c := range []struct{ now, time uint64 }{{0, 10}, {9, 10}, {25, 25}, {25, 25}, {24, 25}, {26, 26}, {api.Never, api.Never}, {3, api.Never}} {
		for _, b := range crowd(t, l.s, c.now, requests(clock, query(keyed)), requests(clock), requests(clock)) {
			if got := readAll(t, b); got[0] != done(c.time, 0) || len(got) > 1 && got[1] != done(0, c.time/10) {
				t.Errorf("P17: in a Crowd at %d: %+v, want the time %d", c.now, got, c.time)
			}
		}
		l.want(0, clock, done(c.time, 0))
	}
}

// TestStreamsThatEndWithinAFrame: what is whole is done, and what is not waits for nothing: the next stream has a connection of its own.
func TestStreamsThatEndWithinAFrame(t *testing.T) {
	whole := requests(clock, query(keyed), admit(keyed, 3), define(keyed, spaced(1, 1)))
	for cut := range len(whole) {
		l := openLedger(t)
		out := crowd(t, l.s, 7, whole[:cut], requests(clock), whole[:cut])
		want := openLedger(t).s.Connect().Feed(7, whole[:cut])
		if !bytes.Equal(out[0], want) || !bytes.Equal(out[2], want) {
			t.Errorf("P17: of %d bytes the replies are %x and %x, want %x", cut, out[0], out[2], want)
		}
		wantReplies(t, "beside a stream that ends early", out[1], []api.Reply{done(7, 0)})
		rest := openLedger(t).s.Connect().Feed(7, whole[cut:])
		if out := crowd(t, l.s, 7, whole[cut:]); !bytes.Equal(out[0], rest) {
			t.Errorf("P17: the bytes behind %d go behind those of another stream: %x, want %x", cut, out[0], rest)
		}
		l.want(7, clock, done(7, 0))
	}
}

// TestStreamsThatAreNoFrames: BadFrame once, nothing more of that stream, and all of the others.
func TestStreamsThatAreNoFrames(t *testing.T) {
	l := openLedger(t)
	well := requests(clock, clock)
	for range 2 {
		out := crowd(t, l.s, 7, []byte{0}, well, append(requests(clock), 27, 1, 6), slices.Concat(requests(clock), []byte{2, 6}, well), well, []byte{0, 0, 0})
		bad, is := code(api.BadFrame), done(7, 0)
		for i, want := range [][]api.Reply{{bad}, {is, is}, {is, bad}, {is, bad}, {is, is}, {bad}} {
			wantReplies(t, "beside bytes that are no frame", out[i], want)
		}
	}
	l.want(7, clock, done(7, 0))
}

// TestListsOfACrowdAreNew: what one has no other has, not even behind its end.
func TestListsOfACrowdAreNew(t *testing.T) {
	l := openLedger(t)
	same := repeated(9, clock)
	streams := [][]byte{same, same, same[:4], same}
	first := quotaledger.Crowd(l.s, 7, streams)
	want := [][]byte{}
	for _, b := range first {
		want = append(want, slices.Clone(b))
	}
	for _, b := range quotaledger.Crowd(l.s, 7, streams) {
		spoil(b[:cap(b)])
	}
	for i, b := range first {
		if !bytes.Equal(b, want[i]) {
			t.Errorf("P2: the replies of stream %d were written into", i)
		}
		spoil(b[:cap(b)])
	}
	if !bytes.Equal(same, repeated(9, clock)) {
		t.Errorf("P2: a list that came out is one that was handed in: %x", same)
	}
}

// TestACrowdOfNoLedger: there is nobody who replies.
func TestACrowdOfNoLedger(t *testing.T) {
	if out := quotaledger.Crowd(nil, 7, nil); out != nil {
		t.Errorf("P1: of no ledger and no streams: %v", out)
	}
	for i, out := range crowd(t, nil, 7, requests(clock), nil, []byte{0}) {
		if out != nil {
			t.Errorf("P1: without a ledger stream %d has the replies %x", i, out)
		}
	}
	for _, out := range crowd(t, new(quotaledger.Server), 7, requests(clock, define(keyed, spaced(1, 1))), requests(clock, snapshot)) {
		wantReplies(t, "of a ledger that nobody opened", out, []api.Reply{done(7, 0), code(api.Unavailable)})
	}
}

func TestAdmittedBehindACrowd(t *testing.T) {
	l, other := openLedger(t), openLedger(t)
	var streams [][]byte
	for i := range byte(api.MaxKeys) {
		k := key(i)
		streams = append(streams, requests(define(k, window(api.Never, 10)), admit(k, 5), admit(k, api.Never), admit(k, 0), admit(keyed, 9), admit(k, uint64(i))))
	}
	crowd(t, l.s, 3, streams...)
	if n := l.s.Admitted(); n != 12*5+66 {
		t.Errorf("P16: Admitted() = %d behind a Crowd, want %d", n, 12*5+66)
	}
	for i := range streams {
		streams[i] = requests(admit(key(byte(i)), api.Never))
	}
	crowd(t, l.s, 13, streams...)
	if n := l.s.Admitted(); n != 12*5+66-12 {
		t.Errorf("P16: Admitted() = %d, want it to wrap around to %d", n, 12*5+66-12)
	}
	if n := other.s.Admitted(); n != 0 {
		t.Errorf("P2: another ledger let in %d", n)
	}
}

// TestACrowdOverADiskThatFalls: what it let in is not forgotten, whenever the disk failed, and its Snapshots are durable.
func TestACrowdOverADiskThatFalls(t *testing.T) {
	const most, block = 60, 3
	streams := make([][]byte, 10)
	for i := range streams {
		streams[i] = slices.Concat(repeated(2, admit(keyed, 1)), requests(snapshot), repeated(2, admit(keyed, 1)))
	}
	for at := range 60 {
		for _, keeps := range []func(int, int) int{lost, kept, func(_, bytes int) int { return bytes / 2 }} {
			d := newFallingDisk()
			s, _ := quotaledger.Open(d, block)
			s.Connect().Feed(5, requests(define(keyed, window(most, 100))))
			d.fails(fault{at: at, says: api.ErrDown, stays: true})
			in := countAdmitted(t, crowd(t, s, 10, streams...))
			if d.late > 0 || in != s.Admitted() {
				t.Fatalf("P12, P16: %d calls behind an error; %d were let in, and Admitted() = %d", d.late, in, s.Admitted())
			}
			d.fall(keeps)
			s, err := quotaledger.Open(d, block)
			if err != nil {
				t.Fatalf("P5: Open = %v", err)
			}
			got := readAll(t, s.Connect().Feed(0, requests(query(keyed))))[0]
			if got.Code != api.Done || got.A < in || got.A > in+1+block {
				t.Fatalf("P13: %d were let in, and it stands at %+v", in, got)
			}
			in += countAdmitted(t, crowd(t, s, 10, slices.Concat(streams, streams)...))
			if in > most || in+1+block < most {
				t.Fatalf("P14: %d were let in, and may be %d", in, most)
			}
		}
	}
}

func countAdmitted(t *testing.T, outs [][]byte) uint64 {
	t.Helper()
	n := uint64(0)
	for _, b := range outs {
		for _, r := range readAll(t, b) {
			if r.Code == api.Admitted {
				n++
			}
		}
	}
	return n
}

// patientDisk waits, when it is first synced, until so many goroutines are there, but not without end.
type patientDisk struct {
	*memoryDisk
	wait int
	most int
}

func (d *patientDisk) Sync() error {
	for range 10000 {
		d.most = max(d.most, runtime.NumGoroutine())
		if d.most >= d.wait {
			break
		}
		time.Sleep(time.Millisecond)
	}
	d.wait = 0
	return nil
}

// TestACrowdIsFedAtTheSameTime: none waits for another to end ahead of its beginning, and none goes on behind the call.
func TestACrowdIsFedAtTheSameTime(t *testing.T) {
	d := &patientDisk{memoryDisk: newDisk()}
	s, err := quotaledger.Open(d, 7)
	if err != nil {
		t.Fatalf("P5: Open = %v", err)
	}
	streams := make([][]byte, 9)
	for i := range streams {
		streams[i] = requests(define(key(byte(i)), spaced(1, 1)))
	}
	was := runtime.NumGoroutine()
	d.wait = was + len(streams)
	wait := d.wait
	crowd(t, s, 0, streams...)
	if d.most < wait {
		t.Errorf("P17: of %d streams %d were fed at the same time", len(streams), d.most-was)
	}
	for range 1000 {
		if runtime.NumGoroutine() <= was {
			return
		}
		time.Sleep(time.Millisecond)
	}
	t.Errorf("P17: behind a Crowd there are %d goroutines, and were %d", runtime.NumGoroutine(), was)
}

// TestManyCrowds: at the same time, beside connections, and the count being asked for.
func TestManyCrowds(t *testing.T) {
	const crowds, turns, room = 6, 20, 400
	l := openLedger(t)
	l.want(0, define(keyed, window(room, 10)), done(0, 0))
	outs := make([][][]byte, crowds)
	var all sync.WaitGroup
	for w := range crowds {
		all.Add(1)
		go func() {
			defer all.Done()
			mine := key(byte(w))
			b := requests(admit(keyed, 1), define(mine, spaced(1, 1)), snapshot, remove(mine))
			own := l.s.Connect()
			for range turns {
				outs[w] = append(outs[w], quotaledger.Crowd(l.s, 5, [][]byte{b, repeated(3, admit(keyed, 1)), b})...)
				outs[w] = append(outs[w], own.Feed(5, requests(admit(keyed, 1))))
				l.s.Admitted()
			}
		}()
	}
	all.Wait()
	stood := map[uint64]int{}
	for _, b := range slices.Concat(outs...) {
		for _, r := range readAll(t, b) {
			if r.Code == api.Admitted {
				stood[r.A]++
			}
		}
	}
	if len(stood) != room || l.s.Admitted() != room {
		t.Errorf("P2, P17: it stood at %d counts, and Admitted() = %d, want %d", len(stood), l.s.Admitted(), room)
	}
	l.want(5, query(keyed), done(room, 0))
}
