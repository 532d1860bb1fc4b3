package rules_test

import (
	"testing"

	"bourse/api"
	"bourse/rules"
	. "bourse/sample"
)

// ledger is what events told of an order.
type ledger struct {
	qty, traded, cancelled uint64
}

// account holds events against what they must come to, without the model.
type account struct {
	orders map[uint64]ledger
	acks   map[uint64]api.Event
	high   uint64
	seq    uint64
	shape  *model // how the book stands, by events alone
}

func accountOf(c api.Config) *account {
	return &account{orders: map[uint64]ledger{}, acks: map[uint64]api.Event{}, shape: &model{config: c}}
}

// entered enters the events of one command.
func (a *account) entered(t *testing.T, l []api.Event, b *rules.Book) {
	t.Helper()
	var came api.Event
	for _, e := range l {
		a.seq++
		Same(t, "Seq", e.Seq, a.seq)
		switch e.Kind {
		case api.EvAck:
			if e.ID <= a.high {
				t.Fatalf("%d is acked behind %d", e.ID, a.high)
			}
			came = e
			a.high = e.ID
			a.acks[e.ID] = e
			a.orders[e.ID] = ledger{qty: e.Qty}
		case api.EvTrade:
			a.traded(t, came, e)
		case api.EvCancel:
			o := a.orders[e.ID]
			o.cancelled += e.Qty
			a.orders[e.ID] = o
			if a.shape.at(e.ID) >= 0 {
				a.shape.drop(e.ID)
			}
		case api.EvRefresh:
			w := a.shape.drop(e.ID)
			Same(t, "shown ahead of a refresh", w.order.Visible, 0)
			w.order.Visible = e.Qty
			w.order.Hidden -= e.Qty
			a.shape.enqueue(w.side, w.order)
		}
	}
	a.rested(came)
	a.balanced(t, b)
}

// traded holds a trade against price and time.
func (a *account) traded(t *testing.T, came, e api.Event) {
	t.Helper()
	Same(t, "the one that trades", e.ID, came.ID)
	Same(t, "its side", e.Side, came.Side)
	first := a.shape.side(3 - came.Side)[0]
	Same(t, "the one that stands first", e.Other, first.order.ID)
	Same(t, "its price", e.Price, first.order.Price)
	if came.Type != api.Market && (e.Side == api.Buy && e.Price > came.Price || e.Side == api.Sell && e.Price < came.Price) {
		t.Fatalf("%+v trades beyond the price of %+v", e, came)
	}
	if e.Qty == 0 || e.Qty > first.order.Visible {
		t.Fatalf("%+v trades of %+v", e, first)
	}
	for _, id := range []uint64{e.ID, e.Other} {
		o := a.orders[id]
		o.traded += e.Qty
		a.orders[id] = o
	}
	i := a.shape.at(e.Other)
	a.shape.heap[i].order.Visible -= e.Qty
	if a.shape.heap[i].order.Visible == 0 && first.order.Hidden == 0 {
		a.shape.drop(e.Other)
	}
}

// rested lets what is left of an order rest that came.
func (a *account) rested(came api.Event) {
	o := a.orders[came.ID]
	left := o.qty - o.traded - o.cancelled
	if left == 0 || came.Kind == 0 {
		return
	}
	r := api.Resting{ID: came.ID, Member: came.Member, Type: came.Type, Price: came.Price, Visible: left, Peak: came.Peak}
	if came.Peak > 0 && came.Peak < left {
		r.Visible, r.Hidden = came.Peak, left-came.Peak
	}
	a.shape.enqueue(came.Side, r)
}

// balanced holds the book behind a command against the account.
func (a *account) balanced(t *testing.T, b *rules.Book) {
	t.Helper()
	x := b.Book()
	Same(t, "Valid", wantedValid(x), api.OK)
	Same(t, "Valid", rules.Valid(x), api.OK)
	a.shape.high, a.shape.seq = a.high, a.seq
	sameBook(t, "Book", x, a.shape.book())
	for id, o := range a.orders {
		r, _, _ := b.Find(id)
		Same(t, "quantity", o.traded+o.cancelled+r.Visible+r.Hidden, o.qty)
		if r.Visible > 0 && a.acks[id].Type != api.Limit && a.acks[id].Type != api.PostOnly {
			t.Fatalf("%+v rests", a.acks[id])
		}
		if o.qty == o.traded+o.cancelled {
			delete(a.orders, id)
		}
	}
}

// kindsHold holds the events of one command against P9.8.
func kindsHold(t *testing.T, l []api.Event, before, after api.Book) {
	t.Helper()
	if l[0].Kind == api.EvReject {
		Same(t, "events of a refusal", len(l), 1)
		before.Seq++
		sameBook(t, "Book behind a refusal", after, before)
		return
	}
	var ack api.Event
	var traded uint64
	for _, e := range l {
		switch e.Kind {
		case api.EvAck:
			ack = e
		case api.EvTrade:
			traded += e.Qty
		}
	}
	switch ack.Type {
	case api.FOK:
		if traded != 0 && traded != ack.Qty {
			t.Fatalf("%+v traded %d", ack, traded)
		}
		if traded == 0 {
			SameList(t, "of an FOK that is not filled", l[1:], []api.Event{{Seq: ack.Seq + 1, Kind: api.EvCancel, ID: ack.ID, Qty: ack.Qty, Reason: api.ByFill}})
			SameList(t, "Buys", after.Buys, before.Buys)
			SameList(t, "Sells", after.Sells, before.Sells)
		}
	case api.PostOnly:
		Same(t, "what a PostOnly trades", traded, 0)
	}
}

func TestP9_5ToP9_8AndP9_10HeldToAccount(t *testing.T) {
	for meet := range 4 {
		for _, capacity := range []int{1, 3, 20} {
			mix := Mixer(500*capacity + meet)
			c := api.Config{Capacity: capacity, Meet: meet}
			b, a := made(t, c), accountOf(c)
			for range long / 2 {
				do := Likely(&mix, a.high, 1+mix.Below(7))
				before := b.Book()
				l := b.Do(do)
				kindsHold(t, l, before, b.Book())
				a.entered(t, l, b)
				Same(t, "High", b.Book().High, a.high)
				if b.Book().High < before.High {
					t.Fatal("High fell")
				}
			}
		}
	}
}
