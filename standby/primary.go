package standby

import (
	"bytes"

	"bourse/api"
	"bourse/venue"
)

// Primary is the one that is asked. Of the venue's calls that are promoted, only those that ask are for use: what is fed to it by hand is no record.
type Primary struct {
	venue.Venue
	records map[uint64]piece // those that were not acked, by their numbers
	last    uint64           // the number of the last record
	acked   uint64           // records were acked up to this number
	held    int              // how many bytes are held
	told    uint64           // how many bytes were told in all
}

// piece is bytes that came, and what the venue told of them.
type piece struct{ came, held []byte }

// NewPrimary: one without records, with an empty book of a config, in an engine.
func NewPrimary(c api.Config, engine int) (*Primary, api.Errno) {
	v, why := venue.New(c, engine)
	if why != api.OK {
		return nil, why
	}
	return &Primary{Venue: *v}, api.OK
}

// In takes what came, and holds what the venue tells of it: its record.
func (p *Primary) In(b []byte) api.Record {
	if p.records == nil {
		p.records = map[uint64]piece{}
	}
	p.last++
	held := p.Feed(b)
	p.records[p.last] = piece{bytes.Clone(b), held}
	p.held += len(held)
	return p.record(p.last)
}

// record is one of those that were not acked, in memory of its own.
func (p *Primary) record(number uint64) api.Record {
	return api.Record{Number: number, Bytes: bytes.Clone(p.records[number].came)}
}

// Acked is told that the standby has all up to a number: what may be told by now.
func (p *Primary) Acked(n uint64) []byte {
	var told []byte
	for end := min(n, p.last); p.acked < end; {
		p.acked++
		told = append(told, p.records[p.acked].held...)
		delete(p.records, p.acked)
	}
	p.held -= len(told)
	p.told += uint64(len(told))
	return told
}

// Again is the records that were not acked.
func (p *Primary) Again() []api.Record {
	var l []api.Record
	for number := p.acked + 1; number <= p.last; number++ {
		l = append(l, p.record(number))
	}
	return l
}

// Held is how many bytes may not be told yet.
func (p *Primary) Held() int { return p.held }

// Told is how many bytes were told.
func (p *Primary) Told() uint64 { return p.told }
