package quota

import (
	"quotaledger/api"
	"quotaledger/room"
)

// turnWindow brings the count to the window of the time; what was let in in another is of no more weight.
func (q Quota) turnWindow(now uint64) Quota {
	if w := now / q.policy.Y; w != q.window {
		q.level, q.window = 0, w
	}
	return q
}

func (q Quota) admitWindow(now, n uint64) (Quota, api.Reply) {
	count, ok := room.Sum(q.level, n)
	if !ok || count > q.policy.X {
		return q, denied(q.nextWindow(n))
	}
	q.level = count
	return q, q.reply(api.Admitted)
}

// nextWindow is when n may be let in that are too many now.
func (q Quota) nextWindow(n uint64) uint64 {
	if n > q.policy.X {
		return api.Never
	}
	// A window that the time is in begins at a number, but the one behind it may not.
	return room.SumOrNever(q.window*q.policy.Y, q.policy.Y)
}
