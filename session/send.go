package session

import "bourse/api"

const (
	quietTicks = 10 // behind so many in which nothing was sent comes a beat
	calmTicks  = 20 // behind each so many in which nothing was taken in its order comes an ask
)

// Begin logs on: the lines that go out.
func (s *Session) Begin() ([][]byte, api.Errno) {
	if !s.First || s.On {
		return nil, api.ErrLogon
	}
	s.On, s.Done, s.Calm = true, false, 0
	return [][]byte{s.send(logOn)}, api.OK
}

// End logs off: the lines that go out.
func (s *Session) End() ([][]byte, api.Errno) {
	if !s.On {
		return nil, api.ErrOff
	}
	s.On, s.Done = false, true
	return [][]byte{s.send(logOff)}, api.OK
}

// Send sends a letter, and keeps it to send it again: the lines that go out.
func (s *Session) Send(l api.Letter) ([][]byte, api.Errno) {
	if !s.On {
		return nil, api.ErrOff
	}
	if why := s.fits(l); why != api.OK {
		return nil, why
	}
	if len(s.Sent) == api.MaxSent {
		return nil, api.ErrSent
	}
	b := s.send(l.Kind, l.Tags...)
	s.Sent = append(s.Sent, api.Sent{Number: s.Out, Letter: copiedLetter(l)})
	return [][]byte{b}, api.OK
}

// Tick lets a tick pass: the lines that go out.
func (s *Session) Tick() [][]byte {
	if !s.On {
		return nil
	}
	var out [][]byte
	s.Quiet, s.Calm = min(s.Quiet+1, mostTicks), min(s.Calm+1, mostTicks)
	if s.Quiet >= quietTicks {
		out = append(out, s.send(beat))
	}
	if s.Calm%calmTicks == 0 {
		out = append(out, s.askNext())
	}
	return out
}

// send is the next line that goes out.
func (s *Session) send(kind string, own ...api.Tag) []byte {
	s.Out++
	s.Quiet = 0
	return s.line(kind, s.Out, false, own)
}

// askNext asks for the line that comes next.
func (s *Session) askNext() []byte {
	s.Asked = s.In + 1
	return s.send(ask, numeral(tagMissing, s.Asked))
}
