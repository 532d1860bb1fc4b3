package market

import "bourse/api"

// newOne is the request of: MEMBER NAME REF SIDE TYPE PRICE QTY PEAK DAY.
func (m *market) newOne(a args) api.Request {
	return api.Request{
		Member: a.member(), Instrument: m.instrument(a[1]), Kind: api.New, Ref: a.number(2), Side: a.small(3), Type: a.small(4),
		Price: a.small(5), Qty: a.number(6), Peak: a.number(7), Day: a.number(8) == 1,
	}
}

// goneOne is the request, of a kind, of: MEMBER NAME TARGET.
func (m *market) goneOne(kind int, a args) api.Request {
	return api.Request{Member: a.member(), Instrument: m.instrument(a[1]), Kind: kind, Target: a.number(2)}
}

// otherOne is the request of: MEMBER NAME TARGET REF PRICE QTY PEAK.
func (m *market) otherOne(a args) api.Request {
	return api.Request{
		Member: a.member(), Instrument: m.instrument(a[1]), Kind: api.Replace, Target: a.number(2), Ref: a.number(3),
		Price: a.small(4), Qty: a.number(5), Peak: a.number(6),
	}
}

// stopOne is the request of: MEMBER NAME REF SIDE TYPE TRIGGER PRICE QTY PEAK.
func (m *market) stopOne(a args) api.Request {
	return api.Request{
		Member: a.member(), Instrument: m.instrument(a[1]), Kind: api.PlaceStop, Ref: a.number(2), Side: a.small(3), Type: a.small(4),
		Trigger: a.small(5), Price: a.small(6), Qty: a.number(7), Peak: a.number(8),
	}
}

func (m *market) sendNew(a args) []string { return m.send(m.newOne(a)) }

func (m *market) sendCancel(a args) []string { return m.send(m.goneOne(api.Cancel, a)) }

func (m *market) sendWithdraw(a args) []string { return m.send(m.goneOne(api.WithdrawStop, a)) }

func (m *market) sendReplace(a args) []string { return m.send(m.otherOne(a)) }

func (m *market) sendStop(a args) []string { return m.send(m.stopOne(a)) }

func (m *market) send(q api.Request) []string {
	return answer(api.OK, m.reports(m.whole.Send(q))...)
}
