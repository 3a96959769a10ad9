package quota

import (
	"testing"

	"quotaledger/api"
	"quotaledger/field"
)

func spaced(level uint64) Quota {
	return Quota{policy: api.Policy{Kind: api.Spaced, X: 10, Y: 25}, level: level}
}

func window(level, window uint64) Quota {
	return Quota{policy: api.Policy{Kind: api.Window, X: 20, Y: 100}, level: level, window: window}
}

func TestAhead(t *testing.T) {
	for _, c := range []struct {
		q     Quota
		block uint64
		want  Quota
	}{
		{spaced(30), 0, spaced(30)},
		{spaced(30), 25, spaced(55)},
		{spaced(30), api.Never - 31, spaced(api.Never - 1)},
		{spaced(30), api.Never - 30, spaced(api.Never)},
		{spaced(30), api.Never - 29, spaced(api.Never)},
		{spaced(api.Never), api.Never, spaced(api.Never)},
		{window(3, 5), 0, window(3, 5)},
		{window(3, 5), 4, window(7, 5)},
		{window(3, 5), 17, window(20, 5)},
		{window(3, 5), 18, window(20, 5)},
		{window(3, 5), api.Never, window(20, 5)},
		{window(20, 5), 1, window(20, 5)},
	} {
		if got := c.q.Ahead(c.block); got != c.want {
			t.Errorf("P13: %+v ahead by %d is %+v, want %+v", c.q, c.block, got, c.want)
		}
	}
}

func TestCovers(t *testing.T) {
	for _, c := range []struct {
		held, stands Quota
		want         bool
	}{
		{spaced(30), spaced(29), true},
		{spaced(30), spaced(30), true},
		{spaced(30), spaced(31), false},
		{window(3, 5), window(3, 5), true},
		{window(3, 5), window(4, 5), false},
		{window(3, 5), window(1, 6), false},
		{window(3, 0), window(1, 1), false},
		{Quota{}, spaced(1), false},
		{Quota{}, window(1, 0), false},
	} {
		if got := c.held.Covers(c.stands); got != c.want {
			t.Errorf("P12: %+v covers %+v: %v", c.held, c.stands, got)
		}
	}
}

func TestReadIsWhatWasAppended(t *testing.T) {
	for _, q := range []Quota{spaced(0), spaced(api.Never), window(0, 0), window(3, api.Never)} {
		b := q.Append([]byte{'!'})
		if len(b) != 1+Size {
			t.Errorf("%+v is %d bytes, want %d", q, len(b)-1, Size)
		}
		if got, ok := Read(field.Of(b[1:])); !ok || got != q {
			t.Errorf("P13: %+v is read as %+v, %v", q, got, ok)
		}
	}
}

func TestReadOfNoSuchPolicy(t *testing.T) {
	for _, p := range []api.Policy{{}, {Kind: 3, X: 1, Y: 1}, {Kind: 255, X: 1, Y: 1}, {Kind: api.Spaced, Y: 1}, {Kind: api.Window, X: 1}} {
		b := Quota{policy: p, level: 1, window: 1}.Append(nil)
		if got, ok := Read(field.Of(b)); ok || got != (Quota{}) {
			t.Errorf("P1: %+v is read as %+v, %v", p, got, ok)
		}
	}
}
