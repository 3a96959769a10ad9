package image

import (
	"bytes"
	"slices"
	"testing"

	"quotaledger/api"
	"quotaledger/quota"
	"quotaledger/sum"
)

// some is an image with so many records, of both kinds.
func some(t *testing.T, n int) Image {
	i := Image{Turn: 7, Time: api.Never - 3}
	for k := range n {
		q, ok := quota.New(api.Policy{Kind: uint8(1 + k%2), X: uint64(k) + 1, Y: api.Never})
		if !ok {
			t.Fatal("no such policy")
		}
		if q, r := q.Admit(uint64(k), 1); r.Code == api.Admitted {
			i.Records = append(i.Records, Record{Key: api.Key{byte(k), 7: 'k'}, Quota: q})
		}
	}
	if len(i.Records) != n {
		t.Fatalf("%d records, want %d", len(i.Records), n)
	}
	return i
}

func write(i Image) []byte {
	var sums sum.Table
	return Write(&sums, i.Turn, i.Time, func(tell func(Record)) {
		for _, r := range i.Records {
			tell(r)
		}
	})
}

func read(b []byte) (Image, bool) {
	var sums sum.Table
	return Read(&sums, b)
}

func same(a, b Image) bool {
	return a.Turn == b.Turn && a.Time == b.Time && slices.Equal(a.Records, b.Records)
}

func TestAnImageIsReadAsItWasWritten(t *testing.T) {
	for n := range api.MaxKeys + 1 {
		want := some(t, n)
		b := write(want)
		kept := bytes.Clone(b)
		if got, ok := read(b); !ok || !same(got, want) {
			t.Errorf("P13: %d records are read as %+v, %v", n, got, ok)
		}
		if !bytes.Equal(b, kept) {
			t.Errorf("P2: the bytes were written into")
		}
	}
}

func TestABeginningOfAnImageIsNone(t *testing.T) {
	for n := range api.MaxKeys + 1 {
		b := write(some(t, n))
		for end := range len(b) {
			if got, ok := read(b[:end]); ok || !same(got, Image{}) {
				t.Errorf("P13: %d bytes of %d are read as %+v", end, len(b), got)
			}
		}
		if got, ok := read(append(b, 0)); ok {
			t.Errorf("a byte more than an image is read as %+v", got)
		}
	}
}

// TestABeginningThatSumsUpIsNone: keys and policies are the clients', so a beginning may end with what would be its sum.
func TestABeginningThatSumsUpIsNone(t *testing.T) {
	var sums sum.Table
	b := write(some(t, 3))
	for end := range len(b) - sum.Size {
		s := sums.Of(b[:end])
		if got, ok := read(slices.Concat(b[:end], s[:])); ok {
			t.Errorf("P13: %d bytes and their sum are read as %+v", end, got)
		}
	}
}

func TestASpoiltImageIsNone(t *testing.T) {
	b := write(some(t, 4))
	for i := range b {
		for bit := range 8 {
			spoilt := bytes.Clone(b)
			spoilt[i] ^= 1 << bit
			if got, ok := read(spoilt); ok {
				t.Errorf("with bit %d of byte %d turned it is read as %+v", bit, i, got)
			}
		}
	}
}

// TestWhatIsNoLedgerIsNoImage: whole, by length and sum, but of a ledger that cannot be.
func TestWhatIsNoLedgerIsNoImage(t *testing.T) {
	for _, i := range []Image{some(t, api.MaxKeys+1), {Records: []Record{{}}}} {
		if got, ok := read(write(i)); ok || !same(got, Image{}) {
			t.Errorf("P1: %+v is read as %+v", i, got)
		}
	}
}
