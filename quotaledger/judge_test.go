package quotaledger_test

import (
	"math/big"
	"math/rand"
	"testing"

	"quotaledger/api"
)

// step: at the time that the clock says the request has this reply.
type step struct {
	now  uint64
	r    api.Request
	want api.Reply
}

func runSteps(t *testing.T, p api.Policy, steps []step) {
	t.Helper()
	for _, block := range []uint64{0, 1, 25, api.Never} {
		l := openBlock(t, block)
		l.want(0, define(keyed, p), done(0, 0))
		for _, s := range steps {
			l.want(s.now, s.r, s.want)
		}
	}
}

func TestSpacedOfTheDocument(t *testing.T) {
	runSteps(t, spaced(10, 25), []step{
		{0, admit(keyed, 1), admitted(10, 0)},
		{0, admit(keyed, 1), admitted(20, 0)},
		{0, admit(keyed, 1), admitted(30, 0)},
		{0, admit(keyed, 1), denied(5)},
		{5, admit(keyed, 1), admitted(40, 0)},
		{4, admit(keyed, 1), denied(15)},
		{15, admit(keyed, 1), admitted(50, 0)},
		{15, admit(keyed, 0), admitted(50, 0)},
		{100, admit(keyed, 3), admitted(130, 0)},
		{100, admit(keyed, 4), denied(api.Never)},
		{100, query(keyed), done(130, 0)},
		{130, admit(keyed, 3), admitted(160, 0)},
		{129, clock, done(130, 0)},
		{200, admit(keyed, 2), admitted(220, 0)},
		{200, admit(keyed, 2), denied(205)},
	})
}

func TestWindowOfTheDocument(t *testing.T) {
	runSteps(t, window(3, 10), []step{
		{0, admit(keyed, 2), admitted(2, 0)},
		{9, admit(keyed, 2), denied(10)},
		{9, admit(keyed, 1), admitted(3, 0)},
		{9, admit(keyed, 1), denied(10)},
		{9, admit(keyed, 4), denied(api.Never)},
		{10, query(keyed), done(0, 1)},
		{10, admit(keyed, 3), admitted(3, 1)},
		{15, admit(keyed, 0), admitted(3, 1)},
		{20, admit(keyed, 1), admitted(1, 2)},
		{8, admit(keyed, 2), admitted(3, 2)},
		{8, admit(keyed, 1), denied(30)},
		{8, clock, done(20, 0)},
	})
}

func TestSpacedDoubleOfTheDocument(t *testing.T) {
	runSteps(t, spaced(10, 40), []step{{520, admit(keyed, 1), admitted(530, 0)}, {520, admit(keyed, 1), admitted(540, 0)}, {520, query(keyed), done(540, 0)}})
}

func TestSpacedLetsNothingInWithoutTurning(t *testing.T) {
	runSteps(t, spaced(10, 0), []step{
		{7, admit(keyed, 0), admitted(0, 0)},
		{7, query(keyed), done(0, 0)},
		{7, admit(keyed, 1), admitted(17, 0)},
		{7, admit(keyed, 1), denied(17)},
		{7, admit(keyed, 0), admitted(17, 0)},
		{16, admit(keyed, 1), denied(17)},
		{16, query(keyed), done(17, 0)},
		{17, admit(keyed, 2), denied(api.Never)},
		{17, admit(keyed, 1), admitted(27, 0)},
		{api.Never, admit(keyed, 0), admitted(27, 0)},
		{0, query(keyed), done(27, 0)},
	})
}

// TestSpacedBurst: n - 1 times X is just Y, and just above it.
func TestSpacedBurst(t *testing.T) {
	runSteps(t, spaced(10, 20), []step{{50, admit(keyed, 4), denied(api.Never)}, {50, admit(keyed, 3), admitted(80, 0)}, {50, admit(keyed, 3), denied(80)}, {79, admit(keyed, 3), denied(80)}, {80, admit(keyed, 3), admitted(110, 0)}})
	runSteps(t, spaced(10, 19), []step{{50, admit(keyed, 3), denied(api.Never)}, {50, admit(keyed, 2), admitted(70, 0)}, {50, admit(keyed, 2), denied(61)}})
}

func TestSpacedProductsOfJustRoomAndJustNone(t *testing.T) {
	third := uint64(api.Never / 3)
	runSteps(t, spaced(third, api.Never), []step{{0, admit(keyed, 4), denied(api.Never)}, {0, query(keyed), done(0, 0)}, {0, admit(keyed, 3), admitted(api.Never, 0)}, {0, admit(keyed, 1), denied(api.Never)}})
	runSteps(t, spaced(third+1, api.Never), []step{{0, admit(keyed, 3), denied(api.Never)}, {0, admit(keyed, 2), admitted(2*third+2, 0)}})
	runSteps(t, spaced(2, api.Never), []step{{0, admit(keyed, 1<<63), denied(api.Never)}, {0, admit(keyed, 1<<63-1), admitted(api.Never-1, 0)}})
	runSteps(t, spaced(1, api.Never), []step{{0, admit(keyed, api.Never), admitted(api.Never, 0)}, {0, admit(keyed, 0), admitted(api.Never, 0)}, {0, admit(keyed, 1), denied(api.Never)}})
	runSteps(t, spaced(1<<32, api.Never), []step{{0, admit(keyed, 1<<32), denied(api.Never)}, {0, admit(keyed, 1<<32+1), denied(api.Never)}, {0, admit(keyed, 1<<32-1), admitted((1<<32-1)<<32, 0)}})
	runSteps(t, spaced(api.Never, 0), []step{{0, admit(keyed, 2), denied(api.Never)}, {0, admit(keyed, 1), admitted(api.Never, 0)}})
}

func TestSpacedSumsOfJustRoomAndJustNone(t *testing.T) {
	runSteps(t, spaced(10, 25), []step{{api.Never - 9, admit(keyed, 1), denied(api.Never)}, {0, query(keyed), done(0, 0)}})
	runSteps(t, spaced(10, 25), []step{{api.Never - 10, admit(keyed, 2), denied(api.Never)}, {0, admit(keyed, 1), admitted(api.Never, 0)}, {0, admit(keyed, 1), denied(api.Never)}})
	runSteps(t, spaced(10, 25), []step{{api.Never - 25, admit(keyed, 2), admitted(api.Never-5, 0)}, {0, admit(keyed, 1), denied(api.Never)}})
	runSteps(t, spaced(1, 25), []step{{api.Never - 26, admit(keyed, 26), admitted(api.Never, 0)}, {api.Never, admit(keyed, 1), denied(api.Never)}})
	// The time and Y together have no room: then they are NEVER, and what has room itself is let in.
	runSteps(t, spaced(10, api.Never), []step{{100, admit(keyed, 5), admitted(150, 0)}, {100, admit(keyed, 1000), admitted(10150, 0)}})
	runSteps(t, spaced(1, 5), []step{{api.Never, admit(keyed, 1), denied(api.Never)}, {api.Never, admit(keyed, 0), admitted(0, 0)}, {0, clock, done(api.Never, 0)}})
	// One that is denied, and whose AT and n - 1 times X have just room.
	runSteps(t, spaced(1<<62, 1<<62), []step{{0, admit(keyed, 2), admitted(1<<63, 0)}, {0, admit(keyed, 1), denied(1 << 62)}, {0, admit(keyed, 2), denied(api.Never)}})
	runSteps(t, spaced(1<<62-1, 1<<62), []step{{0, admit(keyed, 2), admitted(1<<63-2, 0)}, {0, admit(keyed, 2), denied(1<<63 - 3)}})
}

func TestWindowFirstAndLastTime(t *testing.T) {
	runSteps(t, window(2, 7), []step{
		{6, admit(keyed, 2), admitted(2, 0)},
		{6, admit(keyed, 1), denied(7)},
		{7, query(keyed), done(0, 1)},
		{7, admit(keyed, 1), admitted(1, 1)},
		{13, query(keyed), done(1, 1)},
		{13, admit(keyed, 1), admitted(2, 1)},
		{13, admit(keyed, 1), denied(14)},
		{14, admit(keyed, 3), denied(api.Never)},
		{14, admit(keyed, 0), admitted(0, 2)},
		{14, admit(keyed, 2), admitted(2, 2)},
		{3, admit(keyed, 1), denied(21)},
		{700, query(keyed), done(0, 100)},
	})
}

func TestWindowOfNothing(t *testing.T) {
	runSteps(t, window(0, 5), []step{{9, admit(keyed, 0), admitted(0, 1)}, {9, admit(keyed, 1), denied(api.Never)}, {10, query(keyed), done(0, 2)}})
}

func TestWindowsOfJustRoomAndJustNone(t *testing.T) {
	// Windows of 1: the last begins at NEVER, and none behind it.
	runSteps(t, window(1, 1), []step{{api.Never - 2, admit(keyed, 1), admitted(1, api.Never-2)}, {0, admit(keyed, 1), denied(api.Never - 1)}})
	runSteps(t, window(1, 1), []step{{api.Never, admit(keyed, 1), admitted(1, api.Never)}, {0, admit(keyed, 1), denied(api.Never)}})
	// Windows of 10: the last number is within one, and the one behind it has no beginning.
	last := uint64(api.Never / 10)
	runSteps(t, window(3, 10), []step{{last*10 - 1, admit(keyed, 3), admitted(3, last-1)}, {0, admit(keyed, 1), denied(last * 10)}, {last * 10, admit(keyed, 3), admitted(3, last)}, {0, admit(keyed, 1), denied(api.Never)}})
	// One window, of NEVER: the number NEVER is the first of the next.
	runSteps(t, window(3, api.Never), []step{{api.Never - 1, admit(keyed, 3), admitted(3, 0)}, {0, admit(keyed, 1), denied(api.Never)}, {api.Never, admit(keyed, 3), admitted(3, 1)}, {0, admit(keyed, 1), denied(api.Never)}})
	// Counts.
	runSteps(t, window(api.Never, 10), []step{{0, admit(keyed, api.Never-1), admitted(api.Never-1, 0)}, {0, admit(keyed, 2), denied(10)}, {0, admit(keyed, api.Never), denied(10)}, {0, admit(keyed, 1), admitted(api.Never, 0)}, {0, admit(keyed, 1), denied(10)}, {0, admit(keyed, 0), admitted(api.Never, 0)}})
	runSteps(t, window(api.Never-1, 10), []step{{0, admit(keyed, api.Never), denied(api.Never)}, {0, admit(keyed, api.Never-1), admitted(api.Never-1, 0)}, {0, admit(keyed, 2), denied(10)}})
}

// model is a key as the document's words say it, with numbers that have no end.
type model struct {
	p      api.Policy
	stands *big.Int
	window *big.Int
}

func number(v uint64) *big.Int { return new(big.Int).SetUint64(v) }

func plus(a, b *big.Int) *big.Int { return new(big.Int).Add(a, b) }

func times(a, b *big.Int) *big.Int { return new(big.Int).Mul(a, b) }

func orNever(v *big.Int) uint64 {
	if !v.IsUint64() {
		return api.Never
	}
	return v.Uint64()
}

func (m *model) turn(now uint64) {
	if m.p.Kind != api.Window {
		return
	}
	if w := new(big.Int).Div(number(now), number(m.p.Y)); w.Cmp(m.window) != 0 {
		m.stands, m.window = number(0), w
	}
}

func (m *model) admit(now, n uint64) api.Reply {
	m.turn(now)
	if m.p.Kind == api.Window {
		return m.admitWindow(n)
	}
	return m.admitSpaced(now, n)
}

func (m *model) admitSpaced(now, n uint64) api.Reply {
	if n == 0 {
		return m.reply(api.Admitted)
	}
	x, y := number(m.p.X), number(m.p.Y)
	greater := m.stands
	if greater.Cmp(number(now)) < 0 {
		greater = number(now)
	}
	less, all := times(number(n-1), x), times(number(n), x)
	at := plus(greater, all)
	bound := number(orNever(plus(number(now), y)))
	switch {
	case less.Cmp(y) > 0 || !all.IsUint64() || !at.IsUint64():
		return denied(api.Never)
	case plus(greater, less).Cmp(bound) > 0:
		return denied(new(big.Int).Sub(plus(m.stands, less), y).Uint64())
	}
	m.stands = at
	return m.reply(api.Admitted)
}

func (m *model) admitWindow(n uint64) api.Reply {
	then := plus(m.stands, number(n))
	switch {
	case then.Cmp(number(m.p.X)) <= 0:
		m.stands = then
		return m.reply(api.Admitted)
	case n > m.p.X:
		return denied(api.Never)
	}
	return denied(orNever(times(plus(m.window, number(1)), number(m.p.Y))))
}

func (m *model) reply(c uint8) api.Reply {
	return api.Reply{Code: c, A: m.stands.Uint64(), B: m.window.Uint64()}
}

// someNumber is small, near to an edge, or any.
func someNumber(g *rand.Rand) uint64 {
	near := []uint64{0, 1 << 32, 1 << 63, api.Never / 3, api.Never}
	switch g.Intn(6) {
	case 0:
		return g.Uint64() >> g.Intn(64)
	case 1:
		return near[g.Intn(len(near))] + uint64(g.Intn(7)) - 3
	}
	return uint64(g.Intn(40))
}

// laterTime is not much later than that one, but now and then far, and now and then back.
func laterTime(g *rand.Rand, now uint64) uint64 {
	switch g.Intn(12) {
	case 0:
		return someNumber(g)
	case 1, 2, 3:
		return now
	}
	return now + min(uint64(g.Intn(25)), api.Never-now)
}

func TestJudgesAsTheDocumentSays(t *testing.T) {
	g := rand.New(rand.NewSource(20261115))
	codes := map[uint8]int{}
	for range 4000 {
		p := api.Policy{Kind: uint8(1 + g.Intn(2)), X: someNumber(g), Y: someNumber(g)}
		l := openLedger(t)
		if p.Kind == api.Spaced && p.X == 0 || p.Kind == api.Window && p.Y == 0 {
			l.want(0, define(keyed, p), code(api.BadPolicy))
			continue
		}
		l.want(0, define(keyed, p), done(0, 0))
		m := &model{p: p, stands: number(0), window: number(0)}
		clocks, now := uint64(0), uint64(0)
		for range 20 {
			clocks = laterTime(g, clocks)
			now = max(now, clocks)
			n := someNumber(g)
			want := m.admit(now, n)
			codes[want.Code]++
			if got := l.ask(clocks, admit(keyed, n)); got != want {
				t.Fatalf("P9, P10: %+v: Admit %d at %d: %+v, want %+v", p, n, now, got, want)
			}
			if got := l.ask(clocks, query(keyed)); got != m.reply(api.Done) {
				t.Fatalf("P11: %+v: Query at %d: %+v, want %+v", p, now, got, m.reply(api.Done))
			}
		}
	}
	if codes[api.Admitted] < 5000 || codes[api.Denied] < 5000 {
		t.Errorf("the draws ask too little: %v", codes)
	}
}

// TestDeniedTellsTheFirstTime: just ahead of it the same is denied still, and at it let in (P9, P10).
func TestDeniedTellsTheFirstTime(t *testing.T) {
	g := rand.New(rand.NewSource(5))
	told := 0
	for range 3000 {
		p := api.Policy{Kind: uint8(1 + g.Intn(2)), X: 1 + uint64(g.Intn(9)), Y: 1 + uint64(g.Intn(40))}
		early, late := openLedger(t), openLedger(t)
		first, n := uint64(g.Intn(9)), uint64(1+g.Intn(6))
		var r api.Reply
		for _, l := range []ledger{early, late} {
			l.want(0, define(keyed, p), done(0, 0))
			l.ask(0, admit(keyed, first))
			r = l.ask(0, admit(keyed, n))
		}
		if r.Code != api.Denied || r.A == api.Never {
			continue
		}
		told++
		if got := early.ask(r.A-1, admit(keyed, n)); got.Code != api.Denied {
			t.Errorf("%+v: %d behind %d were let in ahead of %d", p, n, first, r.A)
		}
		if got := late.ask(r.A, admit(keyed, n)); got.Code != api.Admitted {
			t.Errorf("%+v: %d behind %d were not let in at %d: %+v", p, n, first, r.A, got)
		}
	}
	if told < 300 {
		t.Errorf("the draws ask too little: %d", told)
	}
}
