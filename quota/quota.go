// Package quota: a policy, how a key stands by it, and what is let in (P8 to P11); what is reserved of it ahead (P12, P13).
package quota

import "quotaledger/api"

// Quota is a policy and how a key stands by it.
// Its fields are not open to others, so that each that New or Read made is of a policy that there is.
type Quota struct {
	policy api.Policy
	level  uint64 // Spaced: the time AT; Window: how many were let in
	window uint64 // the number of the window in which they were; Spaced: 0
}

// New is the quota of a key that stands at 0; false: there is no such policy.
func New(p api.Policy) (Quota, bool) {
	if !sound(p) {
		return Quota{}, false
	}
	return Quota{policy: p}, true
}

func sound(p api.Policy) bool {
	switch p.Kind {
	case api.Spaced:
		return p.X >= 1
	case api.Window:
		return p.Y >= 1
	}
	return false
}

// judge is what the kinds of policies differ in.
type judge struct {
	turn  func(q Quota, now uint64) Quota
	admit func(q Quota, now, n uint64) (Quota, api.Reply)
	ahead func(q Quota, block uint64) Quota
}

// judges has one for each kind; 0 is no kind, and none above Window comes in.
func judges() [api.Window + 1]judge {
	return [...]judge{
		api.Spaced: {turn: Quota.turnSpaced, admit: Quota.admitSpaced, ahead: Quota.aheadSpaced},
		api.Window: {turn: Quota.turnWindow, admit: Quota.admitWindow, ahead: Quota.aheadWindow},
	}
}

// Admit: the reply to n that ask to be let in, and the quota behind it.
func (q Quota) Admit(now, n uint64) (Quota, api.Reply) {
	j := judges()[q.policy.Kind]
	return j.admit(j.turn(q, now), now, n)
}

// Query: the reply to how the key stands.
func (q Quota) Query(now uint64) api.Reply {
	return judges()[q.policy.Kind].turn(q, now).reply(api.Done)
}

func (q Quota) reply(code uint8) api.Reply {
	return api.Reply{Code: code, A: q.level, B: q.window}
}

func denied(until uint64) api.Reply { return api.Reply{Code: api.Denied, A: until} }
