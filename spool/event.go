package spool

import (
	"punnet/api"
)

// Kinds of events.
const (
	Asked     = 1
	Published = 2
	Aborted   = 3
	Exporting = 4
	Exported  = 5
	Listed    = 6
	Got       = 7
	Refused   = 8
)

// Event is something that happened, with the number of entries then.
type Event struct {
	Kind int
	ID   int
	Name string
	Len  int
	Code api.Errno
}

// tell adds an event at this time.
func (s *Spool) tell(x Event) {
	x.Len = s.Len()
	s.events = append(s.events, x)
}
