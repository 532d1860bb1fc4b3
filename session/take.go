package session

import "bourse/api"

// Take takes a line: the letters that it hands on, and the lines that go out.
func (s *Session) Take(b []byte) ([]api.Letter, [][]byte, api.Errno) {
	l, why := s.read(b)
	if why != api.OK {
		return nil, nil, why
	}
	var told []api.Letter
	var out [][]byte
	switch next := s.In + 1; {
	case l.number <= s.In:
	case l.number > next:
		if s.Asked != next {
			out = append(out, s.askNext())
		}
	default:
		told, out = s.takeNext(l)
	}
	// The peer may wait for what it asks for while its own lines are missing here: so an ask is answered wherever its number lies.
	if l.Kind == ask {
		out = append(out, s.again(l.value)...)
	}
	return told, out, api.OK
}

// takeNext takes the line that comes next.
func (s *Session) takeNext(l arrival) ([]api.Letter, [][]byte) {
	s.In, s.Calm, s.Asked = l.number, 0, 0
	if l.Kind == skip {
		s.In = l.value - 1
	}
	out := s.turn(l.Kind)
	if isOurs(l.Kind) {
		return nil, out
	}
	return []api.Letter{l.Letter}, out
}

// turn is what a line of that kind does to the session: on or off.
func (s *Session) turn(kind string) [][]byte {
	switch {
	case kind == logOff:
		return s.turnOff()
	case kind == logOn && !s.First:
		return s.turnOn()
	case !s.Done:
		s.On = true
	}
	return nil
}

func (s *Session) turnOff() [][]byte {
	was := s.On
	s.On, s.Done = false, true
	if !was {
		return nil
	}
	return [][]byte{s.send(logOff)}
}

func (s *Session) turnOn() [][]byte {
	if s.On {
		return nil
	}
	s.On, s.Done = true, false
	return [][]byte{s.send(logOn)}
}

// again is all lines from a number on, sent again: the letters as they were, and a skip for each run of numbers of which none was a letter.
func (s *Session) again(from uint64) [][]byte {
	var out [][]byte
	repeat := func(kind string, own ...api.Tag) {
		out = append(out, s.line(kind, from, true, own))
		s.Quiet = 0
	}
	skipTo := func(next uint64) {
		if from < next {
			repeat(skip, numeral(tagNext, next))
			from = next
		}
	}
	for _, k := range s.Sent {
		if k.Number < from {
			continue
		}
		skipTo(k.Number)
		repeat(k.Letter.Kind, k.Letter.Tags...)
		from++
	}
	skipTo(s.Out + 1)
	return out
}
