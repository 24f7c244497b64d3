package spool

import (
	"punnet/api"
	"punnet/session"
	"punnet/table"
)

// Open begins to write an entry; ErrSession, ErrState, ErrSessions, ErrArg, ErrTime, ErrName, ErrTwice.
func (s *Spool) Open(id int, c session.Config) api.Errno {
	switch {
	case id < 0 || id >= api.MaxSessions:
		return api.ErrSession
	case s.writers[id] != nil:
		return api.ErrState
	case len(s.writers) >= s.config.Sessions:
		return api.ErrSessions
	}
	if e := checkConfig(c); e != api.OK {
		return e
	}
	if e := s.table.Hold(c.Name, id); e != api.OK {
		return e
	}
	c.Quota = s.config.Quota
	x, e := session.New(c, s.store)
	if e != api.OK {
		s.table.Let(c.Name, id)
		return e
	}
	s.writers[id] = &writer{session: x}
	return s.ring.Ready(id)
}

// Write makes bytes of an entry wait; ErrSession, the session's errors.
func (s *Spool) Write(id int, b []byte) api.Errno {
	w := s.writers[id]
	if w == nil {
		return api.ErrSession
	}
	return w.session.Write(b)
}

// Close states that no more bytes of an entry come; ErrSession, ErrState.
func (s *Spool) Close(id int) api.Errno {
	w := s.writers[id]
	if w == nil {
		return api.ErrSession
	}
	return w.session.Close()
}

// Commit asks that an entry be published as soon as all of it is stored; ErrSession, ErrState.
func (s *Spool) Commit(id int) api.Errno {
	w := s.writers[id]
	if w == nil {
		return api.ErrSession
	}
	if w.asked || w.session.Phase() == session.Open {
		return api.ErrState
	}
	w.asked = true
	s.tell(Event{Kind: Asked, ID: id, Name: w.session.Name})
	return api.OK
}

// Abort ends a session, and drops what it wrote; ErrSession.
func (s *Spool) Abort(id int) api.Errno {
	w := s.writers[id]
	if w == nil {
		return api.ErrSession
	}
	s.tell(Event{Kind: Aborted, ID: id, Name: w.session.Name})
	w.session.Drop(false)
	s.table.Let(w.session.Name, id)
	s.leave(id)
	return api.OK
}

func (s *Spool) leave(id int) {
	delete(s.writers, id)
	s.ring.Stop(id)
}

// Step does what comes next in a session; false: there is nothing to do; ErrSession, ErrFull.
func (s *Spool) Step(id int) (bool, api.Errno) {
	w := s.writers[id]
	if w == nil {
		return false, api.ErrSession
	}
	if w.session.Phase() != session.Ready {
		return w.session.Step()
	}
	if !w.asked {
		return false, api.OK
	}
	return s.publish(id, w.session)
}

// publish makes what a session wrote an entry.
func (s *Spool) publish(id int, x *session.Session) (bool, api.Errno) {
	packed, e := s.store.Len(x.Heap())
	if e != api.OK {
		return false, e
	}
	r := table.Row{Name: x.Name, Time: x.Time, Method: x.Method(), CRC: x.CRC(), Packed: packed, Size: x.Size(), Heap: x.Heap()}
	if e := s.table.Put(r, id); e != api.OK {
		return false, e
	}
	x.Drop(true)
	s.leave(id)
	s.tell(Event{Kind: Published, ID: id, Name: x.Name})
	return true, api.OK
}

// Tick does the step of the participant that pick selects; ErrMissing, Step's errors.
func (s *Spool) Tick(pick int) (int, bool, api.Errno) {
	id, e := s.ring.Pick(pick)
	if e != api.OK {
		return 0, false, e
	}
	is, e := s.Step(id)
	return id, is, e
}

// Phase returns the phase of a session; false: there is none.
func (s *Spool) Phase(id int) (session.Phase, bool) {
	w := s.writers[id]
	if w == nil {
		return session.Gone, false
	}
	return w.session.Phase(), true
}

// Waiting returns how many bytes of a session wait.
func (s *Spool) Waiting(id int) int {
	w := s.writers[id]
	if w == nil {
		return 0
	}
	return w.session.Waiting()
}

// Bound returns after how many steps an entry is published at most, if its commit has been asked for and there is room.
func (s *Spool) Bound(id int) int {
	w := s.writers[id]
	if w == nil {
		return 0
	}
	return w.session.Bound() + 1
}
