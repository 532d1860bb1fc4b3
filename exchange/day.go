package exchange

import (
	"bourse/api"
	"bourse/clearing"
)

// Turn turns an instrument to another phase: what is told of it.
func (x *Exchange) Turn(instrument uint32, phase int) ([]api.Report, api.Errno) {
	i := x.find(instrument)
	if i == nil {
		return nil, api.ErrInstrument
	}
	events, why := i.floor.Turn(phase)
	if why != api.OK {
		return nil, why
	}
	return x.workOff(&passage{instrument: i, events: events}), api.OK
}

// Swap lets an instrument go on in another engine.
func (x *Exchange) Swap(instrument uint32, engine int) api.Errno {
	i := x.find(instrument)
	if i == nil {
		return api.ErrInstrument
	}
	return i.floor.Swap(engine)
}

// Kill stops a member, and ends all that is open of it: what is told of that.
func (x *Exchange) Kill(member uint32) ([]api.Report, api.Errno) {
	if x.members[member] == nil {
		return nil, api.ErrNobody
	}
	var told []api.Report
	for _, i := range x.instruments {
		for _, q := range i.kill(member) {
			told = append(told, x.ask(i, q)...)
		}
	}
	return told, api.OK
}

// kill stops a member, and is the requests that end all that is open of it.
func (i *instrument) kill(member uint32) []api.Request {
	var l []api.Request
	ids, _ := i.desk.Kill(member) // every member is set in every desk
	for _, id := range ids {
		l = append(l, api.Request{Member: member, Instrument: i.number, Kind: api.Cancel, Target: i.orders.owners[id].ref})
	}
	for _, s := range i.floor.Pending() {
		if s.Member == member {
			l = append(l, api.Request{Member: member, Instrument: i.number, Kind: api.WithdrawStop, Target: i.stops.owners[s.Number].ref})
		}
	}
	return l
}

// Revive lets a member go on.
func (x *Exchange) Revive(member uint32) api.Errno {
	if x.members[member] == nil {
		return api.ErrNobody
	}
	for _, i := range x.instruments {
		i.desk.Revive(member)
	}
	return api.OK
}

// Settle ends a day in clearing: who is called, who falls, and what is told of those who do.
func (x *Exchange) Settle() ([]clearing.Call, []clearing.Fall, []api.Report, api.Errno) {
	var rates []api.Rate
	for _, i := range x.instruments {
		if i.floor.Phase() != api.Closed {
			return nil, nil, nil, api.ErrPhase
		}
		rates = append(rates, i.rate())
	}
	calls, falls, why := x.house.Close(rates)
	if why != api.OK {
		return nil, nil, nil, why
	}
	var told []api.Report
	for _, f := range falls {
		l, _ := x.Kill(f.Member)
		told = append(told, l...)
	}
	return calls, falls, told, api.OK
}
