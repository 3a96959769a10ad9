// Package sum: sums of records, by which one that was torn or spoilt is told from one that is whole.
package sum

import "sync"

// Size is how many bytes a sum has.
const Size = 8

// Sum is an array, so that two are compared as they are.
type Sum [Size]byte

// polynomial is that of CRC-64 of ECMA-182, its lowest power in the highest bit.
const polynomial = 0xc96c5795d7870f42

// Table has what each byte adds to a sum. It is filled when it is first asked for; one that nobody filled yet is one too.
type Table struct {
	once sync.Once
	rows [256]uint64
}

func (t *Table) fill() {
	for i := range t.rows {
		row := uint64(i)
		for range 8 {
			row = divide(row)
		}
		t.rows[i] = row
	}
}

// divide takes one bit off.
func divide(row uint64) uint64 {
	if row&1 == 1 {
		return row>>1 ^ polynomial
	}
	return row >> 1
}

// Of is the sum of the bytes.
func (t *Table) Of(b []byte) Sum {
	t.once.Do(t.fill)
	rest := ^uint64(0)
	for _, c := range b {
		rest = t.rows[uint8(rest)^c] ^ rest>>8
	}
	return spread(^rest)
}

// spread: the number's bytes, the highest first.
func spread(v uint64) Sum {
	var s Sum
	for i := range Size {
		s[Size-1-i] = uint8(v >> (8 * i))
	}
	return s
}
