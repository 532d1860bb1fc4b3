package rules_test

import (
	"math"
	"math/big"
	"slices"
	"testing"

	"bourse/api"
	"bourse/rules"
	. "bourse/sample"
)

// The tests hold every answer against a model that keeps all orders in one heap, each with the time at which it was enqueued, and sorts them whenever it is asked.

// waiting is an order of the heap.
type waiting struct {
	order api.Resting
	side  int
	time  int
}

type model struct {
	config    api.Config
	heap      []waiting
	high, seq uint64
	time      int
	told      []api.Event
}

func modelOf(x api.Book) *model {
	m := &model{config: x.Config, high: x.High, seq: x.Seq}
	for _, r := range x.Buys {
		m.enqueue(1, r)
	}
	for _, r := range x.Sells {
		m.enqueue(2, r)
	}
	return m
}

func (m *model) enqueue(side int, r api.Resting) {
	m.time++
	m.heap = append(m.heap, waiting{r, side, m.time})
}

// side is the orders of a side, in their priority.
func (m *model) side(side int) []waiting {
	var l []waiting
	for _, w := range m.heap {
		if w.side == side {
			l = append(l, w)
		}
	}
	slices.SortFunc(l, func(a, b waiting) int {
		byPrice := a.order.Price - b.order.Price
		if side == 1 {
			byPrice = -byPrice
		}
		if byPrice != 0 {
			return byPrice
		}
		return a.time - b.time
	})
	return l
}

func (m *model) resting(side int) []api.Resting {
	var l []api.Resting
	for _, w := range m.side(side) {
		l = append(l, w.order)
	}
	return l
}

func (m *model) book() api.Book {
	return api.Book{Config: m.config, Buys: m.resting(1), Sells: m.resting(2), High: m.high, Seq: m.seq}
}

func (m *model) depth(side, most int) []api.Level {
	var l []api.Level
	for _, r := range m.resting(side) {
		if len(l) > 0 && l[len(l)-1].Price == r.Price {
			l[len(l)-1].Qty += r.Visible
			l[len(l)-1].Count++
		} else {
			l = append(l, api.Level{Price: r.Price, Qty: r.Visible, Count: 1})
		}
	}
	return l[:min(max(most, 0), len(l))]
}

// at is where an order lies in the heap, or -1.
func (m *model) at(id uint64) int {
	return slices.IndexFunc(m.heap, func(w waiting) bool { return w.order.ID == id })
}

func (m *model) find(id uint64) Found {
	if i := m.at(id); i >= 0 {
		return Found{Order: m.heap[i].order, Side: m.heap[i].side, There: true}
	}
	return Found{}
}

func (m *model) drop(id uint64) waiting {
	i := m.at(id)
	w := m.heap[i]
	m.heap = slices.Delete(slices.Clone(m.heap), i, i+1)
	return w
}

func (m *model) tell(e api.Event) {
	m.seq++
	e.Seq = m.seq
	m.told = append(m.told, e)
}

// wantedCheck is what P9.2 asks of what does not hang on a book.
func wantedCheck(c api.Command) api.Errno {
	switch c.Kind {
	case 1:
		switch c.Side {
		default:
			return 92
		case 1, 2:
		}
		switch c.Type {
		default:
			return 93
		case 1, 2, 3, 4, 5:
		}
	case 3:
		c.Type = 1
	case 2:
		return 0
	default:
		return 90
	}
	if c.Price < 0 || c.Price > 1<<18-1 || c.Type == 2 && c.Price != 0 {
		return 94
	}
	if c.Qty == 0 || c.Qty > 1<<32-1 {
		return 95
	}
	if c.Peak > c.Qty || c.Peak != 0 && c.Type != 1 && c.Type != 5 {
		return 96
	}
	shows := new(big.Int).Mul(number(c.Peak), big.NewInt(256))
	if c.Peak != 0 && shows.Cmp(number(c.Qty)) < 0 {
		return 96
	}
	if c.ID == 0 {
		return 97
	}
	return 0
}

func number(n uint64) *big.Int { return new(big.Int).SetUint64(n) }

// refusal is what P9.2 asks of a book.
func (m *model) refusal(c api.Command) api.Errno {
	why := wantedCheck(c)
	if why == 90 {
		return 90
	}
	if c.Kind != 1 && m.at(c.Target) < 0 {
		return 91
	}
	if why != 0 || c.Kind == 2 {
		return why
	}
	if c.ID <= m.high {
		return 97
	}
	if c.Kind == 1 && (c.Type == 1 || c.Type == 5) && len(m.heap) == m.config.Capacity {
		return 98
	}
	if c.Kind == 3 {
		c.Type, c.Side = m.find(c.Target).Order.Type, m.find(c.Target).Side
	}
	if c.Type == 5 && len(m.met(c)) > 0 {
		return 99
	}
	return 0
}

// met is the orders of the other side that stand at a command's price or better for it, in their priority.
func (m *model) met(c api.Command) []waiting {
	l := m.side(3 - c.Side)
	return slices.DeleteFunc(l, func(w waiting) bool {
		if c.Type == 2 {
			return false
		}
		if c.Side == 1 {
			return w.order.Price > c.Price
		}
		return w.order.Price < c.Price
	})
}

func (m *model) do(c api.Command) []api.Event {
	m.told = nil
	why := m.refusal(c)
	switch {
	case why != 0 && c.Kind == 1:
		m.tell(api.Event{Kind: 2, ID: c.ID, Code: why})
	case why != 0 && c.Kind == 2:
		m.tell(api.Event{Kind: 2, Target: c.Target, Code: why})
	case why != 0:
		m.tell(api.Event{Kind: 2, ID: c.ID, Target: c.Target, Code: why})
	case c.Kind == 1:
		m.comes(c)
	default:
		old := m.drop(c.Target)
		m.tell(api.Event{Kind: 4, ID: c.Target, Qty: old.order.Visible + old.order.Hidden, Reason: c.Kind - 1})
		if c.Kind == 3 {
			m.comes(api.Command{ID: c.ID, Member: old.order.Member, Side: old.side, Type: old.order.Type, Price: c.Price, Qty: c.Qty, Peak: c.Peak})
		}
	}
	return m.told
}

func (m *model) comes(c api.Command) {
	m.high = c.ID
	m.tell(api.Event{Kind: 1, ID: c.ID, Member: c.Member, Side: c.Side, Type: c.Type, Price: c.Price, Qty: c.Qty, Peak: c.Peak})
	left := c.Qty
	if c.Type == 4 {
		played := *m
		played.heap = slices.Clone(m.heap)
		if !played.matched(c, &left) || left > 0 {
			m.tell(api.Event{Kind: 4, ID: c.ID, Qty: c.Qty, Reason: 4})
			return
		}
		left = c.Qty
	}
	if !m.matched(c, &left) || left == 0 {
		return
	}
	if c.Type != 1 && c.Type != 5 {
		m.tell(api.Event{Kind: 4, ID: c.ID, Qty: left, Reason: 3})
		return
	}
	r := api.Resting{ID: c.ID, Member: c.Member, Type: c.Type, Price: c.Price, Visible: left, Peak: c.Peak}
	if c.Peak != 0 && left > c.Peak {
		r.Visible, r.Hidden = c.Peak, left-c.Peak
	}
	m.enqueue(c.Side, r)
}

// matched plays the three steps of 9.4 as long as there is something to meet; false if the one that comes was cancelled on the way.
func (m *model) matched(c api.Command, left *uint64) bool {
	for *left > 0 && len(m.met(c)) > 0 {
		first := m.drop(m.met(c)[0].order.ID)
		r := first.order
		if c.Member != 0 && c.Member == r.Member && m.config.Meet != 0 {
			if m.config.Meet == 1 {
				m.heap = append(m.heap, first)
			} else {
				m.tell(api.Event{Kind: 4, ID: r.ID, Qty: r.Visible + r.Hidden, Reason: 5})
			}
			if m.config.Meet != 2 {
				m.tell(api.Event{Kind: 4, ID: c.ID, Qty: *left, Reason: 5})
				return false
			}
			continue
		}
		qty := min(*left, r.Visible)
		m.tell(api.Event{Kind: 3, ID: c.ID, Other: r.ID, Side: c.Side, Price: r.Price, Qty: qty})
		*left -= qty
		first.order.Visible -= qty
		if first.order.Visible > 0 {
			m.heap = append(m.heap, first)
		} else if r.Hidden > 0 {
			r.Visible = min(r.Peak, r.Hidden)
			r.Hidden -= r.Visible
			m.enqueue(first.side, r)
			m.tell(api.Event{Kind: 5, ID: r.ID, Price: r.Price, Qty: r.Visible})
		}
	}
	return true
}

// wantedValid is what 9.1 asks of a book.
func wantedValid(b api.Book) api.Errno {
	if b.Config.Capacity < 1 || b.Config.Capacity > 4096 || b.Config.Meet < 0 || b.Config.Meet > 3 {
		return 120
	}
	if len(b.Buys)+len(b.Sells) > b.Config.Capacity {
		return 120
	}
	seen := map[uint64]bool{}
	for _, r := range slices.Concat(b.Buys, b.Sells) {
		if seen[r.ID] || r.ID == 0 || r.ID > b.High || !restingCanBe(r) {
			return 120
		}
		seen[r.ID] = true
	}
	for i := range b.Buys {
		for j := range i {
			if b.Buys[j].Price < b.Buys[i].Price {
				return 120
			}
		}
		for _, s := range b.Sells {
			if b.Buys[i].Price >= s.Price {
				return 120
			}
		}
	}
	for i := range b.Sells {
		for j := range i {
			if b.Sells[j].Price > b.Sells[i].Price {
				return 120
			}
		}
	}
	return 0
}

func restingCanBe(r api.Resting) bool {
	if r.Type != 1 && r.Type != 5 || r.Price < 0 || r.Price >= 1<<18 || r.Visible == 0 {
		return false
	}
	most := big.NewInt(1<<32 - 1)
	all := new(big.Int).Add(number(r.Visible), number(r.Hidden))
	if all.Cmp(most) > 0 || number(r.Peak).Cmp(most) > 0 {
		return false
	}
	if r.Peak == 0 {
		return r.Hidden == 0
	}
	shows := new(big.Int).Mul(number(r.Peak), big.NewInt(256))
	return r.Visible <= r.Peak && all.Cmp(shows) <= 0
}

func sameBook(t *testing.T, what string, a, b api.Book) {
	t.Helper()
	Same(t, what+": Config", a.Config, b.Config)
	SameList(t, what+": Buys", a.Buys, b.Buys)
	SameList(t, what+": Sells", a.Sells, b.Sells)
	Same(t, what+": High", a.High, b.High)
	Same(t, what+": Seq", a.Seq, b.Seq)
}

func made(t *testing.T, c api.Config) *rules.Book {
	t.Helper()
	b, why := rules.New(c)
	if b == nil || why != api.OK {
		t.Fatalf("New(%v): %v", c, why)
	}
	return b
}

// looked holds all that can be seen of a book against the model.
func looked(t *testing.T, b *rules.Book, want *model) {
	t.Helper()
	x := want.book()
	sameBook(t, "Book", b.Book(), x)
	Same(t, "Len", b.Len(), len(x.Buys)+len(x.Sells))
	for _, side := range []int{math.MinInt, -1, 0, 1, 2, 3, math.MaxInt} {
		for _, most := range []int{math.MinInt, -1, 0, 1, 2, 3, len(want.heap), math.MaxInt} {
			SameList(t, "Depth", b.Depth(side, most), want.depth(side, most))
		}
		if l := want.depth(side, 1); len(l) == 1 {
			Same(t, "Best", Best(b, side), Top{Level: l[0], There: true})
		} else {
			Same(t, "Best", Best(b, side), Top{})
		}
	}
	for id := range want.high + 2 {
		if id == 50 {
			break
		}
		Same(t, "Find", Find(b, id), want.find(id))
	}
	Same(t, "Find", Find(b, math.MaxUint64), want.find(math.MaxUint64))
}

// long is how many commands each of the long runs does.
const long = 4000
