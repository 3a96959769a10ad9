package sum

import (
	"encoding/binary"
	"hash/crc64"
	"testing"
)

func TestSumsAreThoseOfCRC64(t *testing.T) {
	var table Table
	if got, want := table.Of([]byte("123456789")), (Sum{0x99, 0x5d, 0xc9, 0xbb, 0xdf, 0x19, 0x39, 0xfa}); got != want {
		t.Errorf("the sum is %x, want %x", got, want)
	}
	ecma := crc64.MakeTable(crc64.ECMA)
	b := []byte{}
	for i := range 600 {
		var want Sum
		binary.BigEndian.PutUint64(want[:], crc64.Checksum(b, ecma))
		if got := table.Of(b); got != want {
			t.Fatalf("the sum of %d bytes is %x, want %x", i, got, want)
		}
		b = append(b, byte(i*i>>3))
	}
}

// TestTheTableIsFilledWhenItIsFirstAskedFor: and once, whoever asks.
func TestTheTableIsFilledWhenItIsFirstAskedFor(t *testing.T) {
	var table Table
	if table.rows != [256]uint64{} {
		t.Errorf("the table is filled ahead of that")
	}
	table.Of(nil)
	if table.rows[1] == 0 {
		t.Errorf("the table is not filled")
	}
	table.rows[1] = 0
	if table.Of(nil); table.rows[1] != 0 {
		t.Errorf("the table is filled once more")
	}
}
