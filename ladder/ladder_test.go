package ladder_test

import (
	"runtime"
	"testing"

	"bourse/api"
	"bourse/ladder"
	. "bourse/sample"
)

// What a ladder has in common with the other engines is tested in folder engines.

func made(t *testing.T, c api.Config) *ladder.Book {
	t.Helper()
	b, why := ladder.New(c)
	Same(t, "New", why, api.OK)
	return b
}

// nodes is what Nodes answers: how many are taken, and how many of them are dead.
func nodes(b *ladder.Book) [2]int {
	taken, dead := b.Nodes()
	return [2]int{taken, dead}
}

// fits holds Nodes against Len and the Capacity.
func fits(t *testing.T, b *ladder.Book, capacity int) {
	t.Helper()
	n := nodes(b)
	Same(t, "Len and dead nodes together", b.Len()+n[1], n[0])
	if n[1] < 0 || n[0] > 2*capacity {
		t.Fatalf("Nodes: %v in %+v", n, b.Book())
	}
}

// rests does a New or Replace of an order that must be taken, and rest whole.
func rests(t *testing.T, b *ladder.Book, c api.Command) {
	t.Helper()
	l := b.Do(c)
	Same(t, "what is told last", l[len(l)-1].Kind, api.EvAck)
	r, _, there := b.Find(c.ID)
	if !there || r.Visible != c.Qty || r.Price != c.Price {
		t.Fatalf("Find(%d): %+v, %v", c.ID, r, there)
	}
}

func TestP11_2Examples(t *testing.T) {
	b := made(t, api.Config{Capacity: 2})
	for id := uint64(1); id <= 1000; id++ {
		rests(t, b, Sell(id, 5, 1))
		Same(t, "Len", b.Len(), 1)
		fits(t, b, 2)
		Tells(t, b, Cancel(id), Ended(id, 1, api.ByOwner))
		Same(t, "Len", b.Len(), 0)
		fits(t, b, 2)
	}
	x := Fair()
	x.Sells = x.Sells[:1]
	Same(t, "Load", b.Load(x), api.OK)
	Same(t, "Nodes", nodes(b), [2]int{3, 0})
}

func TestP11_2BehindNewAndLoad(t *testing.T) {
	b := made(t, api.Config{Capacity: 9})
	Same(t, "Nodes behind New", nodes(b), [2]int{})
	for id := uint64(1); id <= 6; id++ {
		rests(t, b, Buy(id, 10, 1))
	}
	b.Do(Cancel(2))
	b.Do(Cancel(5))
	fits(t, b, 9)
	x := b.Book()
	Same(t, "Load of its own book", b.Load(x), api.OK)
	Same(t, "Nodes behind Load", nodes(b), [2]int{4, 0})
	Keeps(t, b, x)
	b.Do(Cancel(3))
	x.Buys = append(x.Buys, x.Buys[0])
	Same(t, "Load of what can't be", b.Load(x), api.ErrBook)
	Same(t, "Nodes behind Load", nodes(b), [2]int{})
	b.Do(Buy(1, 3, 1))
	b.Do(Buy(2, 3, 1))
	b.Do(Cancel(1))
	Same(t, "Load of an empty book", b.Load(api.Book{Config: api.Config{Capacity: 1}}), api.OK)
	Same(t, "Nodes behind Load", nodes(b), [2]int{})
}

func TestP11_2BookThatNewDidNotMake(t *testing.T) {
	var b ladder.Book
	b.Nodes()
	Same(t, "Load", b.Load(Fair()), api.OK)
	Same(t, "Nodes", nodes(&b), [2]int{4, 0})
}

func TestP11_2P11_3Runs(t *testing.T) {
	for _, capacity := range []int{1, 2, 3, 5, 8, 30} {
		for meet := range 4 {
			mix := Mixer(100*capacity + meet)
			b := made(t, api.Config{Capacity: capacity, Meet: meet})
			// Its twin is loaded anew ahead of each command: it has no dead nodes, and nothing of it was ever swept.
			twin := made(t, api.Config{Capacity: capacity, Meet: meet})
			most := 0
			for range 2000 {
				c := Likely(&mix, b.Book().High, 3)
				// Most orders come and go without a trade, so that levels last and dead nodes gather there.
				if c.Side == api.Sell {
					c.Price += 3
				}
				if mix.Below(20) > 0 {
					c.Type = api.Limit
				}
				SameList(t, "Do", b.Do(c), twin.Do(c))
				Alike(t, b, twin)
				fits(t, b, capacity)
				fits(t, twin, capacity)
				most = max(most, nodes(b)[1])
				Same(t, "Load", twin.Load(twin.Book()), api.OK)
			}
			if capacity >= 5 && most <= capacity {
				t.Errorf("Capacity %d, Meet %d: at most %d nodes were dead", capacity, meet, most)
			}
		}
	}
}

func TestP11_5RoomBehindCancels(t *testing.T) {
	for _, capacity := range []int{1, 2, 3, 10, 100, api.MaxOrders} {
		for _, side := range []int{api.Buy, api.Sell} {
			b := made(t, api.Config{Capacity: capacity})
			// All but one stay, so that what is cancelled among them is dead for long.
			for id := 1; id < capacity; id++ {
				b.Do(Order(uint64(id), side, api.Limit, 5+id%2, 1))
			}
			for step := range 3*capacity + 10 {
				id := uint64(capacity + step)
				rests(t, b, Order(id, side, api.Limit, 5+step%2, 7))
				Same(t, "Len", b.Len(), capacity)
				fits(t, b, capacity)
				Same(t, "Code in a full book", b.Do(Order(id+1, side, api.Limit, 5, 1))[0].Code, api.ErrFull)
				b.Do(Cancel(id))
				fits(t, b, capacity)
			}
		}
	}
}

func TestP11_5RoomBehindReplaces(t *testing.T) {
	for _, capacity := range []int{1, 2, 3, 10, 100} {
		for _, side := range []int{api.Buy, api.Sell} {
			b := made(t, api.Config{Capacity: capacity})
			ids := make([]uint64, capacity)
			for i := range ids {
				ids[i] = uint64(i + 1)
				rests(t, b, Order(ids[i], side, api.Limit, 5, 1))
			}
			// The book is full all the while: each Replace takes a node more.
			mix := Mixer(capacity)
			for id := uint64(capacity + 1); id <= uint64(20*capacity+50); id++ {
				i := mix.Below(capacity)
				rests(t, b, Replace(ids[i], id, 5+mix.Below(2), 1+uint64(mix.Below(9))))
				ids[i] = id
				Same(t, "Len", b.Len(), capacity)
				fits(t, b, capacity)
			}
		}
	}
}

func TestP11_5RoomBehindTrades(t *testing.T) {
	b := made(t, api.Config{Capacity: 3})
	for id := uint64(1); id < 1200; id += 6 {
		// An iceberg is refreshed again and again among dead nodes.
		rests(t, b, Sell(id, 5, 1))
		b.Do(Peaked(Sell(id+1, 5, 30), 1))
		rests(t, b, Sell(id+2, 5, 1))
		b.Do(Cancel(id))
		b.Do(Cancel(id + 2))
		rests(t, b, Sell(id+3, 5, 1))
		Same(t, "events", len(b.Do(Order(id+4, api.Buy, api.IOC, 5, 17))), 1+17+16)
		fits(t, b, 3)
		Same(t, "Find", Find(b, id+1).Order.Hidden, 13)
		// What trades whole leaves no nodes.
		b.Do(Order(id+5, api.Buy, api.Market, 0, 14))
		Same(t, "Nodes", nodes(b), [2]int{})
	}
}

func TestP11_3NothingIsKeptOfLevelsThatAreGone(t *testing.T) {
	b := made(t, api.Config{Capacity: 600})
	used := func() int {
		runtime.GC()
		var m runtime.MemStats
		runtime.ReadMemStats(&m)
		return int(m.HeapAlloc)
	}
	before := used()
	id := uint64(0)
	// Here and there an order stays, then not even that.
	for _, every := range []int{512, api.Ticks} {
		var stay []uint64
		for price := range api.Ticks {
			id++
			rests(t, b, Buy(id, price, 1))
			if price%every == 0 {
				stay = append(stay, id)
			} else {
				b.Do(Cancel(id))
			}
		}
		if more := used() - before; more > 1<<18+8000*len(stay) {
			t.Errorf("%d orders take %d bytes", len(stay), more)
		}
		for _, id := range stay {
			b.Do(Cancel(id))
		}
	}
	if more := used() - before; more > 1<<18 {
		t.Errorf("an empty book takes %d bytes more than at first", more)
	}
	Same(t, "Len", b.Len(), 0)
}
