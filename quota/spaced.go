package quota

import (
	"quotaledger/api"
	"quotaledger/room"
)

// turnSpaced: a time at which a key stands is the same at every time.
func (q Quota) turnSpaced(now uint64) Quota { return q }

func (q Quota) admitSpaced(now, n uint64) (Quota, api.Reply) {
	if n == 0 {
		return q, q.reply(api.Admitted)
	}
	begin := max(q.level, now)
	end, ok := q.after(begin, n)
	if !ok || (n-1)*q.policy.X > q.policy.Y {
		return q, denied(api.Never)
	}
	// The product has room, and so has this sum: both are below what after found to have room.
	last := begin + (n-1)*q.policy.X
	if last > room.SumOrNever(now, q.policy.Y) {
		// Only a key that stands ahead of the time comes here, so last is AT and n - 1 times X, and above Y.
		return q, denied(last - q.policy.Y)
	}
	q.level = end
	return q, q.reply(api.Admitted)
}

// after is the time behind n that begin at that one; false: it has no room.
func (q Quota) after(begin, n uint64) (uint64, bool) {
	whole, ok := room.Product(n, q.policy.X)
	if !ok {
		return 0, false
	}
	return room.Sum(begin, whole)
}
