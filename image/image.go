// Package image: all that is durable of a ledger, as bytes that tell whether they are whole (P13).
package image

import (
	"quotaledger/api"
	"quotaledger/field"
	"quotaledger/quota"
	"quotaledger/sum"
)

// Record is what is durable of a key.
type Record struct {
	Key   api.Key
	Quota quota.Quota
}

// Image is what is durable of a ledger. Of two the one with the later turn holds.
type Image struct {
	Turn, Time uint64
	Records    []Record
}

const (
	headSize   = field.ByteSize + 2*field.NumberSize
	recordSize = field.KeySize + quota.Size
)

// size is how many bytes an image with so many records has.
func size(records uint8) int { return headSize + int(records)*recordSize + sum.Size }

// Write is the image that is told its records.
func Write(sums *sum.Table, turn, time uint64, records func(tell func(Record))) []byte {
	b := []byte{0}
	b = field.AppendNumber(b, turn)
	b = field.AppendNumber(b, time)
	records(func(r Record) {
		// The first byte says how many there are, and so how long all is: no beginning of an image is one.
		b[0]++
		b = append(b, r.Key[:]...)
		b = r.Quota.Append(b)
	})
	s := sums.Of(b)
	return append(b, s[:]...)
}

// Read is the image that Write wrote; false: the bytes are none, or a beginning alone.
func Read(sums *sum.Table, b []byte) (Image, bool) {
	if !whole(sums, b) {
		return Image{}, false
	}
	f := field.Of(b)
	n := f.Byte()
	turn, time := f.Number(), f.Number()
	image := Image{Turn: turn, Time: time}
	for range n {
		k := f.Key()
		q, ok := quota.Read(f)
		if !ok {
			return Image{}, false
		}
		image.Records = append(image.Records, Record{Key: k, Quota: q})
	}
	return image, true
}

func whole(sums *sum.Table, b []byte) bool {
	if len(b) == 0 || b[0] > api.MaxKeys || len(b) != size(b[0]) {
		return false
	}
	end := len(b) - sum.Size
	var told sum.Sum
	copy(told[:], b[end:])
	return told == sums.Of(b[:end])
}
