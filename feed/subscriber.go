package feed

import "bourse/api"

// Subscriber follows.
type Subscriber struct {
	shown    api.Picture
	hold     int
	held     map[uint64]api.Data // by their numbers, which are above the next one
	greatest uint64
	last     api.Data // of the number 0, if there was none
}

// NewSubscriber: nothing is shown yet; so many data are held ahead of a gap.
func NewSubscriber(hold int) (*Subscriber, api.Errno) {
	if hold < 0 || hold > api.MaxHold {
		return nil, api.ErrArg
	}
	return &Subscriber{hold: hold, held: map[uint64]api.Data{}}, api.OK
}

// Take takes a message: it is done, held, or forgotten.
func (s *Subscriber) Take(d api.Data) api.Errno {
	_, held := s.held[d.Seq]
	switch {
	case !canBe(d):
		return api.ErrArg
	case d.Seq <= s.shown.Seq || held:
		return api.ErrStale
	}
	s.greatest = max(s.greatest, d.Seq)
	if d.Seq-s.shown.Seq > 1 {
		s.keep(d)
		return api.ErrGap
	}
	s.do(d)
	s.catchUp()
	return api.OK
}

// Recover takes a picture in the place of what is shown, and goes on from there.
func (s *Subscriber) Recover(p api.Picture) api.Errno {
	switch {
	case !canBeLevels(p.Buys, p.Sells):
		return api.ErrArg
	case p.Seq < s.shown.Seq:
		return api.ErrStale
	}
	s.shown = copied(p)
	for seq := range s.held {
		if seq <= p.Seq {
			delete(s.held, seq)
		}
	}
	s.catchUp()
	return api.OK
}

// keep holds a message, if there is room for it.
func (s *Subscriber) keep(d api.Data) {
	if len(s.held) < s.hold {
		s.held[d.Seq] = d
	}
}

// do does the next message.
func (s *Subscriber) do(d api.Data) {
	switch {
	case d.Kind == api.DataTrade:
		s.last = d
	case d.Side == api.Buy:
		s.shown.Buys = change(s.shown.Buys, d)
	default:
		s.shown.Sells = change(s.shown.Sells, d)
	}
	s.shown.Seq = d.Seq
}

// catchUp does what is held, as far as no number is missing. (Behind the greatest number that there is comes 0, which no message has.)
func (s *Subscriber) catchUp() {
	for {
		d, there := s.held[s.shown.Seq+1]
		if !there {
			return
		}
		delete(s.held, d.Seq)
		s.do(d)
	}
}

// Picture is what it shows.
func (s *Subscriber) Picture() api.Picture { return copied(s.shown) }

// Good tells whether nothing is known to be missing.
func (s *Subscriber) Good() bool { return s.shown.Seq >= s.greatest }

// Missing is the first and the last number that is missing, up to the least that is held.
func (s *Subscriber) Missing() (uint64, uint64, bool) {
	if s.Good() {
		return 0, 0, false
	}
	to := s.greatest
	for seq := range s.held {
		to = min(to, seq-1)
	}
	return s.shown.Seq + 1, to, true
}

// Last is the last trade that was done.
func (s *Subscriber) Last() (api.Data, bool) { return s.last, s.last.Seq > 0 }
