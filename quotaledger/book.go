package quotaledger

import (
	"bytes"
	"maps"
	"slices"

	"quotaledger/api"
	"quotaledger/image"
	"quotaledger/quota"
	"quotaledger/store"
)

// book has a ledger's keys and its time. One that nobody opened has no keys, is at the time 0, and has nothing to keep them on.
type book struct {
	time  uint64
	block uint64 // how far ahead is reserved
	keys  entries
	store *store.Store
}

type entries map[api.Key]entry

// entry is a key's. What was let in is covered: a ledger that is opened anew begins with what is held.
type entry struct {
	stands quota.Quota
	held   quota.Quota // what is durable of it
}

// openBook is the book of the last image that the disk has.
func openBook(d api.Disk, block uint64) (book, error) {
	s, last, err := store.Open(d)
	if err != nil {
		return book{}, err
	}
	keys := entries{}
	for _, r := range last.Records {
		keys[r.Key] = entry{stands: r.Quota, held: r.Quota}
	}
	return book{time: last.Time, block: block, keys: keys, store: s}, nil
}

// pass: the time is what the clock says, but never goes back.
func (b *book) pass(now uint64) { b.time = max(b.time, now) }

func (b *book) define(k api.Key, p api.Policy) api.Reply {
	q, sound := quota.New(p)
	_, taken := b.keys[k]
	switch {
	case !sound:
		return api.Reply{Code: api.BadPolicy}
	case taken:
		return api.Reply{Code: api.Exists}
	case len(b.keys) >= api.MaxKeys:
		return api.Reply{Code: api.Full}
	}
	return b.keep(b.keys.with(k, entry{stands: q, held: q}), api.Reply{Code: api.Done})
}

func (b *book) admit(k api.Key, n uint64) api.Reply {
	e, known := b.keys[k]
	if !known {
		return api.Reply{Code: api.Unknown}
	}
	stands, reply := e.stands.Admit(b.time, n)
	if reply.Code != api.Admitted || n == 0 {
		return reply
	}
	if e.held.Covers(stands) {
		b.keys[k] = entry{stands: stands, held: e.held}
		return reply
	}
	return b.keep(b.keys.with(k, entry{stands: stands, held: stands.Ahead(b.block)}), reply)
}

func (b *book) query(k api.Key) api.Reply {
	e, known := b.keys[k]
	if !known {
		return api.Reply{Code: api.Unknown}
	}
	return e.stands.Query(b.time)
}

func (b *book) remove(k api.Key) api.Reply {
	e, known := b.keys[k]
	if !known {
		return api.Reply{Code: api.Unknown}
	}
	reply := b.keep(b.keys.without(k), api.Reply{Code: api.Done})
	if reply.Code == api.Unavailable {
		// On the disk the key may be gone, and what was held with it: nothing more of it is covered.
		b.keys[k] = entry{stands: e.stands}
	}
	return reply
}

// snapshot writes what is held of the keys, not how they stand: what is reserved stays so.
func (b *book) snapshot() api.Reply {
	if err := b.store.Renew(b.time, b.keys.records); err != nil {
		return api.Reply{Code: api.Unavailable}
	}
	return api.Reply{Code: api.Done}
}

func (b *book) clock() api.Reply { return api.Reply{Code: api.Done, A: b.time} }

// keep: the keys are these, and the reply is this, as soon as they are durable; if they cannot be made so, nothing turns.
func (b *book) keep(next entries, reply api.Reply) api.Reply {
	if err := b.store.Keep(b.time, next.records); err != nil {
		return api.Reply{Code: api.Unavailable}
	}
	b.keys = next
	return reply
}

// with is a copy that has this entry too, or instead of the key's own.
func (e entries) with(k api.Key, one entry) entries {
	next := e.copied()
	next[k] = one
	return next
}

func (e entries) without(k api.Key) entries {
	next := e.copied()
	delete(next, k)
	return next
}

func (e entries) copied() entries {
	next := entries{}
	maps.Copy(next, e)
	return next
}

// records tells what is to be durable of each key, in the order of the keys: what is written hangs on no order of a map.
func (e entries) records(tell func(image.Record)) {
	order := slices.SortedFunc(maps.Keys(e), func(a, b api.Key) int { return bytes.Compare(a[:], b[:]) })
	for _, k := range order {
		tell(image.Record{Key: k, Quota: e[k].held})
	}
}
