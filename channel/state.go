package channel

import (
	"slices"

	"rota/api"
)

// New has none.
func New() *Chans { return &Chans{places: map[api.Gid][]int64{}} }

// Load has these.
func Load(l []api.ChanState) (*Chans, api.Errno) {
	if len(l) > api.MaxChans {
		return nil, api.ErrChans
	}
	c := New()
	for n, s := range l {
		if !mayBe(s) {
			return nil, api.ErrChans
		}
		c.kept = append(c.kept, copied(s))
		c.note(int64(n+1), s.Senders...)
		c.note(int64(n+1), s.Receivers...)
	}
	return c, api.OK
}

// State is all of them.
func (c *Chans) State() []api.ChanState {
	if !c.given() {
		return nil
	}
	l := make([]api.ChanState, len(c.kept))
	for i, s := range c.kept {
		l[i] = copied(s)
	}
	return l
}

// copied is a channel in memory of its own.
func copied(s api.ChanState) api.ChanState {
	s.Values = slices.Clone(s.Values)
	s.Senders = slices.Clone(s.Senders)
	s.Receivers = slices.Clone(s.Receivers)
	return s
}

// mayBe tells whether a channel can stand so.
func mayBe(s api.ChanState) bool {
	return s.Cap >= 0 && s.Cap <= api.MaxBuffer && len(s.Values) <= s.Cap &&
		waitersMayBe(s) && !slices.ContainsFunc(s.Receivers, bringsSomething)
}

// waitersMayBe tells whether those that wait have something to wait for.
func waitersMayBe(s api.ChanState) bool {
	sends, receives := len(s.Senders) > 0, len(s.Receivers) > 0
	switch {
	case s.Closed:
		return !sends && !receives
	case sends && len(s.Values) != s.Cap, receives && len(s.Values) != 0:
		return false
	}
	return !sends || !receives || ofOne(s.Senders, s.Senders[0].G) && ofOne(s.Receivers, s.Senders[0].G)
}

// bringsSomething tells whether one has a value, which one that waits to receive may not.
func bringsSomething(w api.Waiter) bool { return w.Value != 0 }

// ofOne tells whether a goroutine alone waits there.
func ofOne(l []api.Waiter, g api.Gid) bool {
	return !slices.ContainsFunc(l, func(w api.Waiter) bool { return w.G != g })
}
