package field

import (
	"bytes"
	"testing"

	"quotaledger/api"
)

func TestFieldsAreReadAsTheyWereWritten(t *testing.T) {
	p := api.Policy{Kind: 200, X: 1<<56 + 2, Y: api.Never}
	k := api.Key{1, 2, 3, 4, 5, 6, 7, 255}
	b := append([]byte{9}, k[:]...)
	b = AppendNumber(b, 258)
	b = AppendPolicy(b, p)
	if want := ByteSize + KeySize + NumberSize + ByteSize + 2*NumberSize; len(b) != want {
		t.Fatalf("%d bytes, want %d", len(b), want)
	}
	if !bytes.Equal(b[9:17], []byte{0, 0, 0, 0, 0, 0, 1, 2}) {
		t.Errorf("P3: 258 is %x, want the highest byte first", b[9:17])
	}
	f := Of(b)
	small, key, number, policy := f.Byte(), f.Key(), f.Number(), f.Policy()
	if small != 9 || key != k || number != 258 || policy != p {
		t.Errorf("read %d, %v, %d, %+v", small, key, number, policy)
	}
}
