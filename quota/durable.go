package quota

import (
	"quotaledger/field"
	"quotaledger/room"
)

// Size is how many bytes Append puts behind others.
const Size = field.ByteSize + 4*field.NumberSize

// Ahead is where the key may come to stand without anything more being made durable: further on by block.
func (q Quota) Ahead(block uint64) Quota { return judges()[q.policy.Kind].ahead(q, block) }

func (q Quota) aheadSpaced(block uint64) Quota {
	q.level = room.SumOrNever(q.level, block)
	return q
}

// aheadWindow: no window has more than X, so more than that would be reserved for nothing, and 0 would be denied behind a fall.
func (q Quota) aheadWindow(block uint64) Quota {
	q.level = min(room.SumOrNever(q.level, block), q.policy.X)
	return q
}

// Covers: does a ledger that begins with q know of all that was let in of the same key, when it stands so?
// What is reserved in one window is no cover in another.
func (q Quota) Covers(stands Quota) bool {
	return stands.window == q.window && stands.level <= q.level
}

// Append puts the quota behind the bytes.
func (q Quota) Append(b []byte) []byte {
	b = field.AppendPolicy(b, q.policy)
	b = field.AppendNumber(b, q.level)
	return field.AppendNumber(b, q.window)
}

// Read is the quota that Append wrote; false: it is of no policy that there is.
func Read(f *field.Fields) (Quota, bool) {
	q, ok := New(f.Policy())
	level, window := f.Number(), f.Number()
	if !ok {
		return Quota{}, false
	}
	q.level, q.window = level, window
	return q, true
}
