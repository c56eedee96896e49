package channel

import (
	"slices"

	"rota/api"
)

// Wait lets a goroutine wait on a channel, without a try.
func (c *Chans) Wait(ch int64, w api.Waiter, send bool) api.Trap {
	x, trap := c.find(ch)
	if x == nil {
		return trap
	}
	if send {
		x.Senders = append(x.Senders, w)
	} else {
		w.Value = 0
		x.Receivers = append(x.Receivers, w)
	}
	c.note(ch, w)
	return api.TrapNone
}

// Leave lets a goroutine wait nowhere more: how many places it leaves.
func (c *Chans) Leave(g api.Gid) int {
	if !c.given() {
		return 0
	}
	left := c.places[g]
	delete(c.places, g)
	for _, ch := range left {
		x := &c.kept[ch-1]
		x.Senders = without(x.Senders, g)
		x.Receivers = without(x.Receivers, g)
	}
	return len(left)
}

// Waits tells whether a goroutine waits somewhere.
func (c *Chans) Waits(g api.Gid) bool { return c.given() && len(c.places[g]) > 0 }

// note remembers places in which goroutines wait, so that these are found without a look at all channels.
func (c *Chans) note(ch int64, l ...api.Waiter) {
	for _, w := range l {
		c.places[w.G] = append(c.places[w.G], ch)
	}
}

// without takes a goroutine out of those that wait.
func without(l []api.Waiter, g api.Gid) []api.Waiter {
	return slices.DeleteFunc(l, func(w api.Waiter) bool { return w.G == g })
}

// wake wakes one that waits: what that one is told.
func (c *Chans) wake(w api.Waiter, value int64, ok bool, trap api.Trap) api.Woken {
	c.Leave(w.G)
	return api.Woken{G: w.G, Case: w.Case, Value: value, Ok: ok, Trap: trap}
}

// wakeAll wakes those that have stood on a channel that is closed, and tells them behind others. One that has stood there in several places is woken from all of them by the first.
func (c *Chans) wakeAll(woken []api.Woken, l []api.Waiter, trap api.Trap) []api.Woken {
	for _, w := range l {
		if c.Waits(w.G) {
			woken = append(woken, c.wake(w, 0, false, trap))
		}
	}
	return woken
}
