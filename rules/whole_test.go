package rules_test

import (
	"testing"

	"bourse/api"
	"bourse/rules"
	. "bourse/sample"
)

// ledger is what events told of an order.
type ledger struct {
	qty, traded, cancelled uint64
}

// account holds events against what they must come to, without the model.
type account struct {
	orders map[uint64]ledger
	acks   map[uint64]api.Event
	high   uint64
	seq    uint64
	shape  *model // how the book stands, by events alone
}

func accountOf(c api.Config) *account {
	return &account{orders: map[uint64]ledger{}, acks: map[uint64]api.Event{}, shape: &model{config: c}}
}

// entered enters the events of one command.
func (a *account) entered(t *testing.T, l []api.Event, b *rules.Book) {
	t.Helper()
	var came api.Event
	for _, e := range l {
		a.seq++
		same(t, "Seq", e.Seq, a.seq)
		switch e.Kind {
		case api.EvAck:
			if e.ID <= a.high {
				t.Fatalf("%d is acked behind %d", e.ID, a.high)
			}
			came = e
			a.high = e.ID
			a.acks[e.ID] = e
			a.orders[e.ID] = ledger{qty: e.Qty}
		case api.EvTrade:
			a.traded(t, came, e)
		case api.EvCancel:
			o := a.orders[e.ID]
			o.cancelled += e.Qty
			a.orders[e.ID] = o
			if a.shape.at(e.ID) >= 0 {
				a.shape.drop(e.ID)
			}
		case api.EvRefresh:
			w := a.shape.drop(e.ID)
			same(t, "shown ahead of a refresh", w.order.Visible, 0)
			w.order.Visible = e.Qty
			w.order.Hidden -= e.Qty
			a.shape.enqueue(w.side, w.order)
		}
	}
	a.rested(came)
	a.balanced(t, b)
}

// traded holds a trade against price and time.
func (a *account) traded(t *testing.T, came, e api.Event) {
	t.Helper()
	same(t, "the one that trades", e.ID, came.ID)
	same(t, "its side", e.Side, came.Side)
	first := a.shape.side(3 - came.Side)[0]
	same(t, "the one that stands first", e.Other, first.order.ID)
	same(t, "its price", e.Price, first.order.Price)
	if came.Type != api.Market && (e.Side == api.Buy && e.Price > came.Price || e.Side == api.Sell && e.Price < came.Price) {
		t.Fatalf("%+v trades beyond the price of %+v", e, came)
	}
	if e.Qty == 0 || e.Qty > first.order.Visible {
		t.Fatalf("%+v trades of %+v", e, first)
	}
	for _, id := range []uint64{e.ID, e.Other} {
		o := a.orders[id]
		o.traded += e.Qty
		a.orders[id] = o
	}
	i := a.shape.at(e.Other)
	a.shape.heap[i].order.Visible -= e.Qty
	if a.shape.heap[i].order.Visible == 0 && first.order.Hidden == 0 {
		a.shape.drop(e.Other)
	}
}

// rested lets what is left of an order rest that came.
func (a *account) rested(came api.Event) {
	o := a.orders[came.ID]
	left := o.qty - o.traded - o.cancelled
	if left == 0 || came.Kind == 0 {
		return
	}
	r := api.Resting{ID: came.ID, Member: came.Member, Type: came.Type, Price: came.Price, Visible: left, Peak: came.Peak}
	if came.Peak > 0 && came.Peak < left {
		r.Visible, r.Hidden = came.Peak, left-came.Peak
	}
	a.shape.enqueue(came.Side, r)
}

// balanced holds the book behind a command against the account.
func (a *account) balanced(t *testing.T, b *rules.Book) {
	t.Helper()
	x := b.Book()
	same(t, "Valid", wantedValid(x), api.OK)
	same(t, "Valid", rules.Valid(x), api.OK)
	a.shape.high, a.shape.seq = a.high, a.seq
	sameBook(t, "Book", x, a.shape.book())
	for id, o := range a.orders {
		r, _, _ := b.Find(id)
		same(t, "quantity", o.traded+o.cancelled+r.Visible+r.Hidden, o.qty)
		if r.Visible > 0 && a.acks[id].Type != api.Limit && a.acks[id].Type != api.PostOnly {
			t.Fatalf("%+v rests", a.acks[id])
		}
		if o.qty == o.traded+o.cancelled {
			delete(a.orders, id)
		}
	}
}

// kindsHold holds the events of one command against P9.8.
func kindsHold(t *testing.T, l []api.Event, before, after api.Book) {
	t.Helper()
	if l[0].Kind == api.EvReject {
		same(t, "events of a refusal", len(l), 1)
		before.Seq++
		sameBook(t, "Book behind a refusal", after, before)
		return
	}
	var ack api.Event
	var traded uint64
	for _, e := range l {
		switch e.Kind {
		case api.EvAck:
			ack = e
		case api.EvTrade:
			traded += e.Qty
		}
	}
	switch ack.Type {
	case api.FOK:
		if traded != 0 && traded != ack.Qty {
			t.Fatalf("%+v traded %d", ack, traded)
		}
		if traded == 0 {
			sameList(t, "of an FOK that is not filled", l[1:], []api.Event{{Seq: ack.Seq + 1, Kind: api.EvCancel, ID: ack.ID, Qty: ack.Qty, Reason: api.ByFill}})
			sameList(t, "Buys", after.Buys, before.Buys)
			sameList(t, "Sells", after.Sells, before.Sells)
		}
	case api.PostOnly:
		same(t, "what a PostOnly trades", traded, 0)
	}
}

func TestP9_5ToP9_8AndP9_10HeldToAccount(t *testing.T) {
	for meet := range 4 {
		for _, capacity := range []int{1, 3, 20} {
			mix := Mixer(500*capacity + meet)
			c := api.Config{Capacity: capacity, Meet: meet}
			b, a := made(t, c), accountOf(c)
			for range long / 2 {
				do := Likely(&mix, a.high, 1+mix.Below(7))
				before := b.Book()
				l := b.Do(do)
				kindsHold(t, l, before, b.Book())
				a.entered(t, l, b)
				same(t, "High", b.Book().High, a.high)
				if b.Book().High < before.High {
					t.Fatal("High fell")
				}
			}
		}
	}
}

func TestP9_5NeverCrossed(t *testing.T) {
	// What is left of an order rests at its own price only where nothing is left that it would meet.
	b := of(t, Sell(1, 5, 1), Sell(2, 6, 1), Buy(3, 5, 4))
	same(t, "Best", best(b, api.Buy), top{api.Level{Price: 5, Qty: 3, Count: 1}, true})
	same(t, "Best", best(b, api.Sell), top{api.Level{Price: 6, Qty: 1, Count: 1}, true})
	tells(t, b, Sell(4, 0, 5), Acked(Sell(4, 0, 5)), Traded(4, 3, api.Sell, 5, 3))
	sameList(t, "Depth", b.Depth(api.Sell, 9), []api.Level{{Price: 0, Qty: 2, Count: 1}, {Price: 6, Qty: 1, Count: 1}})
	same(t, "Best", best(b, api.Buy), top{})
}

func TestP9_6GreatestQuantities(t *testing.T) {
	const most = 1<<32 - 1
	b := of(t, Peaked(Sell(1, 9, most), 1<<24), Sell(2, 9, most))
	// Behind its first peak the plain order stands ahead of it.
	c := Order(3, api.Buy, api.Market, 0, 1<<24+most)
	refuses(t, b, c, api.ErrQty)
	c.Qty = 1 << 24
	tells(t, b, c, Acked(c), Traded(3, 1, api.Buy, 9, 1<<24), Refreshed(1, 9, 1<<24))
	b.Do(Cancel(2))
	c = Order(4, api.Buy, api.FOK, 9, most-1<<24)
	want := []api.Event{Acked(c)}
	for show := 2; show <= 256; show++ {
		qty := uint64(1 << 24)
		if show == 256 {
			qty--
		}
		if show > 2 {
			want = append(want, Refreshed(1, 9, qty))
		}
		want = append(want, Traded(4, 1, api.Buy, 9, qty))
	}
	tells(t, b, c, want...)
	same(t, "Len", b.Len(), 0)
}

func TestP9_6FullBook(t *testing.T) {
	const most = 1<<32 - 1
	b := made(t, api.Config{Capacity: 4096})
	for id := range uint64(4096) {
		c := Sell(id+1, api.Ticks-1, most)
		tells(t, b, c, Acked(c))
	}
	refuses(t, b, Buy(5000, 0, 1), api.ErrFull)
	same(t, "Best", best(b, api.Sell), top{api.Level{Price: api.Ticks - 1, Qty: 4096 * most, Count: 4096}, true})
	x := b.Book()
	same(t, "Valid", rules.Valid(x), api.OK)
	x.Config.Capacity--
	same(t, "Valid", rules.Valid(x), api.ErrBook)
	c := Order(5000, api.Buy, api.IOC, api.Ticks-1, most)
	tells(t, b, c, Acked(c), Traded(5000, 1, api.Buy, api.Ticks-1, most))
	tells(t, b, Buy(5001, 0, 1), Acked(Buy(5001, 0, 1)))
}

func TestP9_6ManyShows(t *testing.T) {
	// Icebergs at one price, each shown as often as may be: they take turns.
	const icebergs, shows = 300, 256
	b := made(t, api.Config{Capacity: icebergs})
	for id := range uint64(icebergs) {
		b.Do(Peaked(Sell(id+1, 7, shows), 1))
	}
	l := b.Do(Order(1000, api.Buy, api.FOK, 7, icebergs*shows))
	var others []uint64
	refreshes := 0
	for _, e := range l {
		switch e.Kind {
		case api.EvTrade:
			same(t, "Qty", e.Qty, 1)
			others = append(others, e.Other)
		case api.EvRefresh:
			refreshes++
		}
	}
	same(t, "trades", len(others), icebergs*shows)
	same(t, "refreshes", refreshes, icebergs*(shows-1))
	for i, id := range others {
		same(t, "whose turn it is", id, uint64(i%icebergs+1))
	}
	same(t, "Len", b.Len(), 0)
}

func TestP9_7PriceAndTime(t *testing.T) {
	b := made(t, api.Config{Capacity: 9})
	for _, c := range []api.Command{Buy(1, 5, 2), Buy(2, 6, 2), Buy(3, 5, 2), Buy(4, 6, 2), Buy(5, 4, 2)} {
		b.Do(c)
	}
	c := Sell(6, 5, 9)
	tells(t, b, c, Acked(c), Traded(6, 2, api.Sell, 6, 2), Traded(6, 4, api.Sell, 6, 2), Traded(6, 1, api.Sell, 5, 2), Traded(6, 3, api.Sell, 5, 2))
	sameList(t, "Depth", b.Depth(api.Sell, 9), []api.Level{{Price: 5, Qty: 1, Count: 1}})
	// One that traded in part keeps its place.
	b = of(t, Sell(1, 5, 3), Sell(2, 5, 3))
	b.Do(Order(3, api.Buy, api.IOC, 5, 1))
	c = Order(4, api.Buy, api.IOC, 5, 3)
	tells(t, b, c, Acked(c), Traded(4, 1, api.Buy, 5, 2), Traded(4, 2, api.Buy, 5, 1))
}

func TestP9_7ARefreshLosesItsPlace(t *testing.T) {
	b := of(t, Peaked(Sell(1, 5, 5), 2), Sell(2, 5, 2), Sell(3, 6, 1))
	// It is refreshed as soon as it shows nothing, also where nothing is left of the one that comes.
	c := Buy(4, 5, 2)
	tells(t, b, c, Acked(c), Traded(4, 1, api.Buy, 5, 2), Refreshed(1, 5, 2))
	sameList(t, "Sells", b.Book().Sells, []api.Resting{{ID: 2, Type: 1, Price: 5, Visible: 2}, {ID: 1, Type: 1, Price: 5, Visible: 2, Hidden: 1, Peak: 2}, {ID: 3, Type: 1, Price: 6, Visible: 1}})
	c = Buy(5, 6, 5)
	tells(t, b, c, Acked(c), Traded(5, 2, api.Buy, 5, 2), Traded(5, 1, api.Buy, 5, 2), Refreshed(1, 5, 1), Traded(5, 1, api.Buy, 5, 1))
}

func TestP9_8Fill(t *testing.T) {
	sells := []api.Command{Peaked(Sell(1, 5, 6), 2), Sell(2, 5, 3), Sell(3, 6, 1)}
	for qty := uint64(1); qty <= 12; qty++ {
		for price := 4; price <= 7; price++ {
			b := of(t, sells...)
			before := b.Book()
			c := Order(4, api.Buy, api.FOK, price, qty)
			l := b.Do(c)
			could := map[int]uint64{4: 0, 5: 9, 6: 10, 7: 10}[price]
			if qty > could {
				sameList(t, "Do", l, []api.Event{{Seq: 4, Kind: api.EvAck, ID: 4, Side: 1, Type: 4, Price: price, Qty: qty}, {Seq: 5, Kind: api.EvCancel, ID: 4, Qty: qty, Reason: api.ByFill}})
				before.High, before.Seq = 4, 5
				sameBook(t, "Book", b.Book(), before)
				continue
			}
			// What it tells is what an IOC does, but for its type.
			ioc := of(t, sells...)
			want := ioc.Do(Order(4, api.Buy, api.IOC, price, qty))
			want[0].Type = api.FOK
			sameList(t, "Do", l, want)
			sameBook(t, "Book", b.Book(), ioc.Book())
		}
	}
}

func TestP9_8FillAmongItsOwn(t *testing.T) {
	// 2 is of the member that comes: what stands behind it counts with MeetOldest alone, and what is hidden ahead of it comes behind it.
	for meet, could := range []uint64{12, 2, 9, 2} {
		for qty := uint64(1); qty <= 13; qty++ {
			b := made(t, api.Config{Capacity: 9, Meet: meet})
			b.Do(Peaked(Sell(1, 5, 6), 2))
			b.Do(By(Sell(2, 5, 3), 7))
			b.Do(Sell(3, 6, 3))
			before := b.Book()
			c := By(Order(4, api.Buy, api.FOK, 6, qty), 7)
			l := b.Do(c)
			var sum uint64
			for _, e := range l {
				if e.Kind == api.EvTrade {
					sum += e.Qty
				}
			}
			if qty > could {
				sameList(t, "Do", l[1:], []api.Event{{Seq: 5, Kind: api.EvCancel, ID: 4, Qty: qty, Reason: api.ByFill}})
				sameList(t, "Sells", b.Book().Sells, before.Sells)
				continue
			}
			same(t, "what an FOK trades", sum, qty)
		}
	}
}

func TestP9_8MarketsAndIOCsNeverRest(t *testing.T) {
	b := of(t, Sell(1, 5, 1), Sell(2, api.Ticks-1, 1))
	c := Order(3, api.Buy, api.IOC, 6, 4)
	tells(t, b, c, Acked(c), Traded(3, 1, api.Buy, 5, 1), Ended(3, 3, api.ByRest))
	c = Order(4, api.Buy, api.Market, 0, 4)
	tells(t, b, c, Acked(c), Traded(4, 2, api.Buy, api.Ticks-1, 1), Ended(4, 3, api.ByRest))
	c = Order(5, api.Sell, api.Market, 0, 4)
	tells(t, b, c, Acked(c), Ended(5, 4, api.ByRest))
	b.Do(Buy(6, 0, 1))
	c = Order(7, api.Sell, api.Market, 0, 1)
	tells(t, b, c, Acked(c), Traded(7, 6, api.Sell, 0, 1))
	same(t, "Len", b.Len(), 0)
}

func TestP9_9ABookIsEnough(t *testing.T) {
	for meet := range 4 {
		mix := Mixer(99 + meet)
		c := api.Config{Capacity: 10, Meet: meet}
		a, other := made(t, c), made(t, api.Config{Capacity: 1, Meet: 3 - meet})
		for range long {
			do := Likely(&mix, a.Book().High, 1+mix.Below(6))
			if mix.Below(10) == 0 {
				// It goes on in a book that held something else.
				other = Pick(&mix, other, made(t, api.Config{Capacity: 2}), loaded(t, fair()))
				same(t, "Load", other.Load(a.Book()), api.OK)
				sameBook(t, "Book", other.Book(), a.Book())
				sameList(t, "Do", other.Do(do), a.Do(do))
				sameBook(t, "Book", other.Book(), a.Book())
				a, other = other, a
				continue
			}
			a.Do(do)
		}
	}
}

func TestP9_10Numbers(t *testing.T) {
	b := of(t)
	var seq, high uint64
	for _, c := range []api.Command{Sell(3, 5, 2), Cancel(9), Buy(3, 1, 1), Buy(5, 6, 1), Replace(3, 6, 7, 1), {}, Order(7, api.Sell, api.FOK, 1, 1), Cancel(6), Buy(9, 1, 0), Replace(6, 12, 1, 1)} {
		for _, e := range b.Do(c) {
			seq++
			same(t, "Seq", e.Seq, seq)
			if e.Kind == api.EvAck {
				high = max(high, e.ID)
			}
		}
		same(t, "High", b.Book().High, high)
		same(t, "Seq", b.Book().Seq, seq)
	}
	same(t, "High", high, 7)
}
