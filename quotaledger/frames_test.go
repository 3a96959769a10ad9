package quotaledger_test

import (
	"bytes"
	"encoding/hex"
	"testing"

	"quotaledger/api"
	"quotaledger/plain"
	"quotaledger/quotaledger"
)

const most = 1<<64 - 1

// keyed has another byte at each place, so that an order that is wrong shows.
var keyed = api.Key{0xf1, 0xf2, 0xf3, 0xf4, 0xf5, 0xf6, 0xf7, 0xf8}

const keyedHex = "f1f2f3f4f5f6f7f8"

// requestCases: each request holds nothing that its Op does not name.
var requestCases = []struct {
	name string
	r    api.Request
	want string
}{
	{"Define Spaced", api.Request{Op: api.Define, Key: keyed, Policy: api.Policy{Kind: api.Spaced, X: 10, Y: 25}}, "1a01" + keyedHex + "01" + "000000000000000a" + "0000000000000019"},
	{"Define Window", api.Request{Op: api.Define, Key: keyed, Policy: api.Policy{Kind: api.Window, X: 0x0102030405060708, Y: 0x1112131415161718}}, "1a01" + keyedHex + "02" + "0102030405060708" + "1112131415161718"},
	{"Define of no kind", api.Request{Op: api.Define, Key: keyed}, "1a01" + keyedHex + "00" + "0000000000000000" + "0000000000000000"},
	{"Define of the greatest", api.Request{Op: api.Define, Policy: api.Policy{Kind: 255, X: most, Y: most - 1}}, "1a01" + "0000000000000000" + "ff" + "ffffffffffffffff" + "fffffffffffffffe"},
	{"Admit of the document", api.Request{Op: api.Admit, Key: api.Key{'k'}, N: 258}, "11026b000000000000000000000000000102"},
	{"Admit 0", api.Request{Op: api.Admit, Key: keyed}, "1102" + keyedHex + "0000000000000000"},
	{"Admit 2^63", api.Request{Op: api.Admit, Key: keyed, N: 1 << 63}, "1102" + keyedHex + "8000000000000000"},
	{"Admit of the greatest", api.Request{Op: api.Admit, Key: keyed, N: most}, "1102" + keyedHex + "ffffffffffffffff"},
	{"Query", api.Request{Op: api.Query, Key: keyed}, "0903" + keyedHex},
	{"Delete", api.Request{Op: api.Delete, Key: keyed}, "0904" + keyedHex},
	{"Delete of the key of zeros", api.Request{Op: api.Delete}, "09040000000000000000"},
	{"Snapshot", api.Request{Op: api.Snapshot}, "0105"},
	{"Clock", api.Request{Op: api.Clock}, "0106"},
}

var replyCases = []struct {
	name string
	r    api.Reply
	want string
}{
	{"Done", api.Reply{Code: api.Done}, "110100000000000000000000000000000000"},
	{"Admitted of the document", api.Reply{Code: api.Admitted, A: 1 << 56, B: 3}, "110201000000000000000000000000000003"},
	{"Denied", api.Reply{Code: api.Denied, A: api.Never}, "1103ffffffffffffffff0000000000000000"},
	{"Unknown", api.Reply{Code: api.Unknown, B: api.Never}, "11040000000000000000ffffffffffffffff"},
	{"Full", api.Reply{Code: api.Full, A: 0x0102030405060708, B: 0x1112131415161718}, "110501020304050607081112131415161718"},
	{"BadFrame", api.Reply{Code: api.BadFrame}, "110600000000000000000000000000000000"},
	{"Unavailable", api.Reply{Code: api.Unavailable}, "110700000000000000000000000000000000"},
	{"BadPolicy", api.Reply{Code: api.BadPolicy}, "110800000000000000000000000000000000"},
	{"Exists", api.Reply{Code: api.Exists, A: 1 << 63, B: 1}, "110980000000000000000000000000000001"},
}

func unhex(t *testing.T, s string) []byte {
	t.Helper()
	b, err := hex.DecodeString(s)
	if err != nil {
		t.Fatal(err)
	}
	return b
}

// wantRequest asks by the call itself, and as it is asked from outside.
func wantRequest(t *testing.T, b []byte, r api.Request, n int, e api.Errno) {
	t.Helper()
	var want error
	if e != api.OK {
		want = e
	}
	if gr, gn, err := quotaledger.ReadRequest(b); gr != r || gn != n || err != want {
		t.Errorf("P4: ReadRequest(%x) = %+v, %d, %v; want %+v, %d, %v", b, gr, gn, err, r, n, want)
	}
	if gr, gn, ge := plain.ReadRequest(b); gr != r || gn != n || ge != e {
		t.Errorf("P4: plain.ReadRequest(%x) = %+v, %d, %d; want %+v, %d, %d", b, gr, gn, ge, r, n, e)
	}
}

func wantReply(t *testing.T, b []byte, r api.Reply, n int, e api.Errno) {
	t.Helper()
	var want error
	if e != api.OK {
		want = e
	}
	if gr, gn, err := quotaledger.ReadReply(b); gr != r || gn != n || err != want {
		t.Errorf("P4: ReadReply(%x) = %+v, %d, %v; want %+v, %d, %v", b, gr, gn, err, r, n, want)
	}
	if gr, gn, ge := plain.ReadReply(b); gr != r || gn != n || ge != e {
		t.Errorf("P4: plain.ReadReply(%x) = %+v, %d, %d; want %+v, %d, %d", b, gr, gn, ge, r, n, e)
	}
}

func TestRequestIsWritten(t *testing.T) {
	for _, c := range requestCases {
		if b := quotaledger.Request(c.r); hex.EncodeToString(b) != c.want {
			t.Errorf("P3: %s: Request(%+v) = %x, want %s", c.name, c.r, b, c.want)
		}
	}
}

func TestRequestPassesOverWhatItsOpDoesNotName(t *testing.T) {
	all := api.Request{Key: keyed, Policy: api.Policy{Kind: 7, X: 8, Y: 9}, N: 10}
	for op, want := range map[uint8]string{
		api.Define:   "1a01" + keyedHex + "07" + "0000000000000008" + "0000000000000009",
		api.Admit:    "1102" + keyedHex + "000000000000000a",
		api.Query:    "0903" + keyedHex,
		api.Delete:   "0904" + keyedHex,
		api.Snapshot: "0105",
		api.Clock:    "0106",
	} {
		r := all
		r.Op = op
		if b := quotaledger.Request(r); hex.EncodeToString(b) != want {
			t.Errorf("P3: Request(%+v) = %x, want %s", r, b, want)
		}
	}
}

func TestRequestOfNoSuchOpIsNil(t *testing.T) {
	for op := range 256 {
		r := api.Request{Op: uint8(op), Key: keyed, Policy: api.Policy{Kind: 1, X: 1, Y: 1}, N: 1}
		is := op >= api.Define && op <= api.Clock
		if b := quotaledger.Request(r); (b != nil) != is {
			t.Errorf("P3: Request with the Op %d = %x", op, b)
		}
	}
}

func TestReplyIsWritten(t *testing.T) {
	for _, c := range replyCases {
		if b := quotaledger.Reply(c.r); hex.EncodeToString(b) != c.want {
			t.Errorf("P3: %s: Reply(%+v) = %x, want %s", c.name, c.r, b, c.want)
		}
	}
}

func TestReplyIsWrittenWhateverItsCode(t *testing.T) {
	behind := unhex(t, "00000000000001020000000000000304")
	for code := range 256 {
		want := append([]byte{17, uint8(code)}, behind...)
		if b := quotaledger.Reply(api.Reply{Code: uint8(code), A: 0x102, B: 0x304}); !bytes.Equal(b, want) {
			t.Errorf("P3: Reply with the Code %d = %x, want %x", code, b, want)
		}
	}
}

func TestRequestIsReadAlsoWithMoreBehindIt(t *testing.T) {
	for _, c := range requestCases {
		b := unhex(t, c.want)
		for _, behind := range []string{"", "00", "ff", "1b", "0106", c.want} {
			wantRequest(t, append(unhex(t, c.want), unhex(t, behind)...), c.r, len(b), api.OK)
		}
	}
}

func TestReplyIsReadAlsoWithMoreBehindIt(t *testing.T) {
	for _, c := range replyCases {
		for _, behind := range []string{"", "00", "ff", "10", c.want} {
			wantReply(t, append(unhex(t, c.want), unhex(t, behind)...), c.r, 18, api.OK)
		}
	}
}

// The bytes that were cut off stay in the slice's room: they must not be read.
func TestBytesThatEndWithinARequestAreShort(t *testing.T) {
	for _, c := range requestCases {
		b := unhex(t, c.want)
		for n := range b {
			wantRequest(t, b[:n], api.Request{}, 0, api.ErrShort)
		}
	}
	wantRequest(t, nil, api.Request{}, 0, api.ErrShort)
}

func TestBytesThatEndWithinAReplyAreShort(t *testing.T) {
	for _, c := range replyCases {
		b := unhex(t, c.want)
		for n := range b {
			wantReply(t, b[:n], api.Reply{}, 0, api.ErrShort)
		}
	}
	wantReply(t, nil, api.Reply{}, 0, api.ErrShort)
}

func TestFirstByteAlone(t *testing.T) {
	for first := range 256 {
		e := api.ErrShort
		if first == 0 || first > 26 {
			e = api.ErrFrame
		}
		wantRequest(t, []byte{uint8(first)}, api.Request{}, 0, e)
		e = api.ErrFrame
		if first == 17 {
			e = api.ErrShort
		}
		wantReply(t, []byte{uint8(first)}, api.Reply{}, 0, e)
	}
}

// requestBegins is written out beside the program, so that both would have to be wrong in one way.
func requestBegins(first, op int) bool {
	switch [2]int{first, op} {
	case [2]int{26, 1}, [2]int{17, 2}, [2]int{9, 3}, [2]int{9, 4}, [2]int{1, 5}, [2]int{1, 6}:
		return true
	}
	return false
}

func TestRequestOfAllTwoFirstBytes(t *testing.T) {
	for first := range 256 {
		for op := range 256 {
			b := make([]byte, 300)
			b[0], b[1] = uint8(first), uint8(op)
			if !requestBegins(first, op) {
				wantRequest(t, b[:2], api.Request{}, 0, api.ErrFrame)
				wantRequest(t, b, api.Request{}, 0, api.ErrFrame)
				continue
			}
			wantRequest(t, b, api.Request{Op: uint8(op)}, 1+first, api.OK)
			if first > 1 {
				wantRequest(t, b[:2], api.Request{}, 0, api.ErrShort)
			}
		}
	}
}

func TestReplyOfAllTwoFirstBytes(t *testing.T) {
	for first := range 256 {
		for code := range 256 {
			b := make([]byte, 300)
			b[0], b[1] = uint8(first), uint8(code)
			if first != 17 || code < 1 || code > 9 {
				wantReply(t, b[:2], api.Reply{}, 0, api.ErrFrame)
				wantReply(t, b, api.Reply{}, 0, api.ErrFrame)
				continue
			}
			wantReply(t, b[:2], api.Reply{}, 0, api.ErrShort)
			wantReply(t, b, api.Reply{Code: uint8(code)}, 18, api.OK)
		}
	}
}

func TestReadKindIsAnyByte(t *testing.T) {
	for kind := range 256 {
		b := make([]byte, 27)
		b[0], b[1], b[10] = 26, api.Define, uint8(kind)
		wantRequest(t, b, api.Request{Op: api.Define, Policy: api.Policy{Kind: uint8(kind)}}, 27, api.OK)
	}
}

func TestReadingLeavesTheBytes(t *testing.T) {
	var in [][]byte
	for _, c := range requestCases {
		in = append(in, unhex(t, c.want+"0106"))
	}
	for _, c := range replyCases {
		in = append(in, unhex(t, c.want+"1101"))
	}
	for _, b := range append(in, unhex(t, "0206"), unhex(t, "110a00")) {
		was := bytes.Clone(b)
		quotaledger.ReadRequest(b)
		quotaledger.ReadReply(b)
		if !bytes.Equal(b, was) {
			t.Errorf("P2: reading turned %x to %x", was, b)
		}
	}
}

func TestWrittenFramesAreTheCallers(t *testing.T) {
	for _, c := range requestCases {
		first := quotaledger.Request(c.r)
		clear(first[:cap(first)])
		if b := quotaledger.Request(c.r); hex.EncodeToString(b) != c.want {
			t.Errorf("P2: Request(%+v) = %x when an earlier one was written into", c.r, b)
		}
	}
	for _, c := range replyCases {
		first := quotaledger.Reply(c.r)
		clear(first[:cap(first)])
		if b := quotaledger.Reply(c.r); hex.EncodeToString(b) != c.want {
			t.Errorf("P2: Reply(%+v) = %x when an earlier one was written into", c.r, b)
		}
	}
}
