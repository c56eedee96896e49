package sema

import (
	"math"

	"rota/api"
)

// mutex is locked, or read by so many, or free.
type mutex struct {
	queue[api.LockWaiter]
	locked  bool
	readers int
}

// mutexOf is one of a state.
func mutexOf(s api.LockState) mutex {
	return mutex{queue: queueOf(s.Queue), locked: s.Locked, readers: s.Readers}
}

// state is what is told of it.
func (m *mutex) state() api.LockState {
	return api.LockState{Locked: m.locked, Readers: m.readers, Queue: m.all()}
}

// mayBe tells whether it can stand so: nobody waits for what can be had.
func (m *mutex) mayBe() bool {
	return m.readers >= 0 && !(m.locked && m.readers > 0) && !m.goes()
}

// free tells whether it is neither locked nor read.
func (m *mutex) free() bool { return !m.locked && m.readers == 0 }

// lock locks it for a goroutine, or lets that wait.
func (m *mutex) lock(g api.Gid) api.Held {
	if m.free() && m.empty() {
		m.locked = true
		return api.Held{}
	}
	m.join(api.LockWaiter{G: g})
	return api.Held{Waits: true}
}

// rlock lets a goroutine read it, or wait.
func (m *mutex) rlock(g api.Gid) api.Held {
	switch {
	case m.locked || !m.empty():
		m.join(api.LockWaiter{G: g, Read: true})
		return api.Held{Waits: true}
	case m.readers == math.MaxInt:
		return api.Held{Trap: api.TrapNegative}
	}
	m.readers++
	return api.Held{}
}

// unlock lets it go, if it is locked.
func (m *mutex) unlock() api.Held {
	if !m.locked {
		return api.Held{Trap: api.TrapUnlock}
	}
	m.locked = false
	return api.Held{Woken: m.handOver()}
}

// runlock lets one of those that read it go, if there is one.
func (m *mutex) runlock() api.Held {
	if m.readers == 0 {
		return api.Held{Trap: api.TrapUnlock}
	}
	m.readers--
	return api.Held{Woken: m.handOver()}
}

// goes tells whether the first that waits can have it.
func (m *mutex) goes() bool {
	switch {
	case m.empty():
		return false
	case m.first().Read:
		return !m.locked
	}
	return m.free()
}

// handOver hands it over, as long as it goes: to whom.
func (m *mutex) handOver() []api.Gid {
	var woken []api.Gid
	for m.goes() {
		w := m.leave()
		if w.Read {
			m.readers++
		} else {
			m.locked = true
		}
		woken = append(woken, w.G)
	}
	return woken
}
