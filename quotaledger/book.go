package quotaledger

import (
	"quotaledger/api"
	"quotaledger/quota"
)

// book has a ledger's keys and its time. One that nothing was done to yet has no keys and is at the time 0.
type book struct {
	time uint64
	keys map[api.Key]quota.Quota
}

// pass: the time is what the clock says, but never goes back.
func (b *book) pass(now uint64) { b.time = max(b.time, now) }

func (b *book) define(k api.Key, p api.Policy) api.Reply {
	q, sound := quota.New(p)
	_, taken := b.keys[k]
	switch {
	case !sound:
		return api.Reply{Code: api.BadPolicy}
	case taken:
		return api.Reply{Code: api.Exists}
	case len(b.keys) >= api.MaxKeys:
		return api.Reply{Code: api.Full}
	}
	b.put(k, q)
	return api.Reply{Code: api.Done}
}

// put makes the map when it is first needed, so that a book that nobody made is one too.
func (b *book) put(k api.Key, q quota.Quota) {
	if b.keys == nil {
		b.keys = map[api.Key]quota.Quota{}
	}
	b.keys[k] = q
}

func (b *book) admit(k api.Key, n uint64) api.Reply {
	q, known := b.keys[k]
	if !known {
		return api.Reply{Code: api.Unknown}
	}
	q, reply := q.Admit(b.time, n)
	b.put(k, q)
	return reply
}

func (b *book) query(k api.Key) api.Reply {
	q, known := b.keys[k]
	if !known {
		return api.Reply{Code: api.Unknown}
	}
	return q.Query(b.time)
}

func (b *book) remove(k api.Key) api.Reply {
	if _, known := b.keys[k]; !known {
		return api.Reply{Code: api.Unknown}
	}
	delete(b.keys, k)
	return api.Reply{Code: api.Done}
}

func (b *book) clock() api.Reply { return api.Reply{Code: api.Done, A: b.time} }
