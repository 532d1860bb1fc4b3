package rules_test

import (
	"math"
	"slices"
	"testing"

	"bourse/api"
	"bourse/rules"
	. "bourse/sample"
)

func TestP9_1ConfigsThatCantBe(t *testing.T) {
	for _, c := range []api.Config{
		{}, {Capacity: -1}, {Capacity: math.MinInt}, {Capacity: 4097}, {Capacity: math.MaxInt},
		{Capacity: 1, Meet: -1}, {Capacity: 1, Meet: 4}, {Capacity: 1, Meet: math.MinInt}, {Capacity: 1, Meet: math.MaxInt},
	} {
		if b, why := rules.New(c); b != nil || why != api.ErrArg {
			t.Errorf("New(%v): %v, %v", c, b, why)
		}
		same(t, "Valid", rules.Valid(api.Book{Config: c}), api.ErrBook)
	}
}

func TestP9_1ConfigsThatCanBe(t *testing.T) {
	for _, capacity := range []int{1, 2, 4095, 4096} {
		for meet := range 4 {
			c := api.Config{Capacity: capacity, Meet: meet}
			looked(t, made(t, c), &model{config: c})
			same(t, "Valid", rules.Valid(api.Book{Config: c}), api.OK)
		}
	}
}

// fair is a book with which nothing is wrong: each test spoils one thing of it.
func fair() api.Book {
	return api.Book{
		Config: api.Config{Capacity: 4, Meet: 2},
		Buys:   []api.Resting{{ID: 3, Member: 7, Type: api.Limit, Price: 10, Visible: 5}, {ID: 9, Type: api.PostOnly, Price: 10, Visible: 2, Hidden: 4, Peak: 3}},
		Sells:  []api.Resting{{ID: 1, Type: api.Limit, Price: 11, Visible: 1, Peak: 1}, {ID: 2, Type: api.Limit, Price: 12, Visible: 1}},
		High:   9,
		Seq:    40,
	}
}

func TestP9_1Valid(t *testing.T) {
	const most = 1<<32 - 1
	for name, x := range map[string]struct {
		spoil func(b *api.Book)
		want  api.Errno
	}{
		"fair":                         {func(b *api.Book) {}, 0},
		"capacity just enough":         {func(b *api.Book) { b.Config.Capacity = 4 }, 0},
		"capacity too small":           {func(b *api.Book) { b.Config.Capacity = 3 }, 120},
		"capacity 0":                   {func(b *api.Book) { b.Config.Capacity = 0 }, 120},
		"capacity too great":           {func(b *api.Book) { b.Config.Capacity = 4097 }, 120},
		"meet":                         {func(b *api.Book) { b.Config.Meet = 4 }, 120},
		"high below an ID":             {func(b *api.Book) { b.High = 8 }, 120},
		"high above all":               {func(b *api.Book) { b.High = math.MaxUint64 }, 0},
		"any Seq":                      {func(b *api.Book) { b.Seq = math.MaxUint64 }, 0},
		"ID 0":                         {func(b *api.Book) { b.Buys[0].ID = 0 }, 120},
		"an ID twice on one side":      {func(b *api.Book) { b.Buys[0].ID = 9 }, 120},
		"an ID twice on both sides":    {func(b *api.Book) { b.Buys[0].ID = 2 }, 120},
		"a sell's ID above high":       {func(b *api.Book) { b.Sells[1].ID = 10 }, 120},
		"a Market":                     {func(b *api.Book) { b.Buys[0].Type = api.Market }, 120},
		"an IOC":                       {func(b *api.Book) { b.Sells[0].Type = api.IOC }, 120},
		"an FOK":                       {func(b *api.Book) { b.Sells[1].Type = api.FOK }, 120},
		"no type":                      {func(b *api.Book) { b.Sells[1].Type = 0 }, 120},
		"a type above all":             {func(b *api.Book) { b.Sells[1].Type = 6 }, 120},
		"price 0":                      {func(b *api.Book) { b.Buys[1].Price = 0 }, 0},
		"price below 0":                {func(b *api.Book) { b.Buys[1].Price = -1 }, 120},
		"the highest price":            {func(b *api.Book) { b.Sells[1].Price = api.Ticks - 1 }, 0},
		"a price above it":             {func(b *api.Book) { b.Sells[1].Price = api.Ticks }, 120},
		"buys that rise":               {func(b *api.Book) { b.Buys[0].Price = 9 }, 120},
		"sells that fall":              {func(b *api.Book) { b.Sells[1].Price = 10 }, 120},
		"sells at one price":           {func(b *api.Book) { b.Sells[1].Price = 11 }, 0},
		"IDs at one price may fall":    {func(b *api.Book) { b.Buys[0].ID, b.Buys[1].ID = 9, 3 }, 0},
		"locked":                       {func(b *api.Book) { b.Sells[0].Price = 10 }, 120},
		"crossed":                      {func(b *api.Book) { b.Sells[0].Price = 9 }, 120},
		"no sells to cross":            {func(b *api.Book) { b.Sells = nil; b.Buys[0].Price = 17 }, 0},
		"no buys to cross":             {func(b *api.Book) { b.Buys = []api.Resting{}; b.Sells[0].Price = 0 }, 0},
		"shows nothing":                {func(b *api.Book) { b.Buys[0].Visible = 0 }, 120},
		"shows the most":               {func(b *api.Book) { b.Buys[0].Visible = most }, 0},
		"shows more":                   {func(b *api.Book) { b.Buys[0].Visible = most + 1 }, 120},
		"hides without a peak":         {func(b *api.Book) { b.Buys[0].Hidden = 1 }, 120},
		"shows its peak":               {func(b *api.Book) { b.Buys[1].Visible = 3 }, 0},
		"shows more than its peak":     {func(b *api.Book) { b.Buys[1].Visible = 4 }, 120},
		"as often as may be":           {func(b *api.Book) { b.Buys[1].Hidden = 3*256 - 2 }, 0},
		"too often":                    {func(b *api.Book) { b.Buys[1].Hidden = 3*256 - 1 }, 120},
		"the greatest peak":            {func(b *api.Book) { b.Buys[1].Peak = most }, 0},
		"a greater peak":               {func(b *api.Book) { b.Buys[1].Peak = most + 1 }, 120},
		"a peak whose product wraps":   {func(b *api.Book) { b.Buys[1].Peak = 1<<56 + 3 }, 120},
		"the most in all":              {func(b *api.Book) { b.Buys[1].Peak, b.Buys[1].Hidden = most, most-2 }, 0},
		"more in all":                  {func(b *api.Book) { b.Buys[1].Peak, b.Buys[1].Hidden = most, most-1 }, 120},
		"a sum that wraps":             {func(b *api.Book) { b.Buys[1].Peak, b.Buys[1].Hidden = most, math.MaxUint64 }, 120},
		"what it hides wraps to order": {func(b *api.Book) { b.Buys[1].Hidden = math.MaxUint64 - 1 }, 120},
	} {
		b := fair()
		x.spoil(&b)
		if got := rules.Valid(b); got != x.want || wantedValid(b) != x.want {
			t.Errorf("%s: got %v, wanted %v (the model: %v)", name, got, x.want, wantedValid(b))
		}
	}
}

func TestP9_1ValidOfManyBooks(t *testing.T) {
	const most = 1<<32 - 1
	mix := Mixer(91)
	some := func(high uint64) api.Resting {
		r := api.Resting{ID: uint64(mix.Below(int(high))) + 1, Type: Pick(&mix, 1, 1, 1, 5), Price: mix.Below(4), Visible: 1}
		if mix.Below(3) == 0 {
			r.Peak = Pick[uint64](&mix, 1, 2, 100, most)
			r.Visible = Pick(&mix, 1, 2, r.Peak)
			r.Hidden = Pick(&mix, 0, 1, 256*r.Peak-r.Visible, most-r.Visible)
		}
		if mix.Below(40) == 0 {
			r.Hidden = mix.Next()
		}
		return r
	}
	can := 0
	for range 60000 {
		b := api.Book{Config: api.Config{Capacity: 1 + mix.Below(6), Meet: mix.Below(4)}, High: uint64(8 + mix.Below(30))}
		for range mix.Below(3) {
			b.Buys = append(b.Buys, some(b.High))
		}
		for range mix.Below(3) {
			r := some(b.High)
			r.Price += mix.Below(4)
			b.Sells = append(b.Sells, r)
		}
		want := wantedValid(b)
		if want == 0 {
			can++
		}
		same(t, "Valid", rules.Valid(b), want)
	}
	if can < 5000 || can > 55000 {
		t.Errorf("only %d of the books can be", can)
	}
}

func TestP9_1Load(t *testing.T) {
	b := of(t, Buy(1, 3, 2), Sell(2, 5, 1))
	x := fair()
	same(t, "Load", b.Load(x), api.OK)
	looked(t, b, modelOf(x))
	sameBook(t, "what was handed in", x, fair())
	x.Sells[0].Visible = 0
	same(t, "Load of what can't be", b.Load(x), api.ErrBook)
	// The config is the one that it had, not that of the book that can't be.
	x.Config = api.Config{Capacity: 2}
	looked(t, b, &model{config: fair().Config})
	same(t, "Load of what can't be", b.Load(x), api.ErrBook)
	looked(t, b, &model{config: fair().Config})
	tells(t, b, Buy(1, 10, 1), Acked(Buy(1, 10, 1)))
	same(t, "Load of an empty book", b.Load(api.Book{Config: api.Config{Capacity: 1}}), api.OK)
	looked(t, b, &model{config: api.Config{Capacity: 1}})
}

func TestP9_1NothingIsShared(t *testing.T) {
	x := fair()
	x.Buys = append(make([]api.Resting, 0, 9), x.Buys...)
	b := loaded(t, x)
	spoil := func(l []api.Resting) {
		l = l[:cap(l)]
		for i := range l {
			l[i] = api.Resting{ID: 77}
		}
	}
	spoil(x.Buys)
	spoil(x.Sells)
	looked(t, b, modelOf(fair()))
	told, again := b.Book(), b.Book()
	spoil(told.Buys)
	sameList(t, "Sells beside Buys", told.Sells, fair().Sells)
	spoil(told.Sells)
	sameBook(t, "another answer", again, fair())
	levels := b.Depth(api.Buy, 9)
	for i := range levels[:cap(levels)] {
		levels[:cap(levels)][i] = api.Level{Price: 77}
	}
	looked(t, b, modelOf(fair()))
	events := b.Do(Sell(10, 10, 20))
	kept := slices.Clone(events)
	book := b.Book()
	b.Do(Buy(11, 12, 20))
	sameList(t, "events of before", events, kept)
	same(t, "Load", b.Load(book), api.OK)
	for i := range events[:cap(events)] {
		events[:cap(events)][i] = api.Event{ID: 77}
	}
	sameBook(t, "Book", b.Book(), book)
}

func TestP9_1TwoBooksKnowNothingOfOneAnother(t *testing.T) {
	a, b := loaded(t, fair()), loaded(t, fair())
	a.Do(Cancel(3))
	a.Do(Sell(10, 10, 1))
	looked(t, b, modelOf(fair()))
}

func TestP9_1BookThatNewDidNotMake(t *testing.T) {
	// What it answers is open, but no call may panic.
	var b rules.Book
	mix := Mixer(90)
	for range 500 {
		b.Do(Wild(&mix, 5, 5))
	}
	b.Book()
	b.Best(1)
	b.Depth(2, 9)
	b.Find(1)
	b.Len()
	b.Load(api.Book{})
	same(t, "Load", b.Load(fair()), api.OK)
	looked(t, &b, modelOf(fair()))
}

func TestP9_2Check(t *testing.T) {
	const most = 1<<32 - 1
	good := api.Command{Kind: api.New, ID: 1, Side: api.Buy, Type: api.Limit, Price: 5, Qty: 10, Peak: 2}
	with := func(change func(c *api.Command)) api.Command {
		c := good
		change(&c)
		return c
	}
	for i, x := range []struct {
		c    api.Command
		want api.Errno
	}{
		{good, api.OK},
		{with(func(c *api.Command) { c.Kind = 0 }), api.ErrKind},
		{with(func(c *api.Command) { c.Kind = 4 }), api.ErrKind},
		{with(func(c *api.Command) { c.Kind = -1 }), api.ErrKind},
		{api.Command{}, api.ErrKind},
		{with(func(c *api.Command) { c.Side = 0 }), api.ErrSide},
		{with(func(c *api.Command) { c.Side = 3 }), api.ErrSide},
		{with(func(c *api.Command) { c.Side = 0; c.Type = 0 }), api.ErrSide},
		{with(func(c *api.Command) { c.Type = 0 }), api.ErrType},
		{with(func(c *api.Command) { c.Type = 6 }), api.ErrType},
		{with(func(c *api.Command) { c.Type = 6; c.Price = -1 }), api.ErrType},
		{with(func(c *api.Command) { c.Price = -1 }), api.ErrPrice},
		{with(func(c *api.Command) { c.Price = 0 }), api.OK},
		{with(func(c *api.Command) { c.Price = api.Ticks - 1 }), api.OK},
		{with(func(c *api.Command) { c.Price = api.Ticks }), api.ErrPrice},
		{with(func(c *api.Command) { c.Price = api.Ticks; c.Qty = 0 }), api.ErrPrice},
		{Order(1, api.Sell, api.Market, 0, 1), api.OK},
		{Order(1, api.Sell, api.Market, 1, 1), api.ErrPrice},
		{with(func(c *api.Command) { c.Qty = 0 }), api.ErrQty},
		{with(func(c *api.Command) { c.Qty = 0; c.Peak = 0 }), api.ErrQty},
		{with(func(c *api.Command) { c.Qty = most; c.Peak = 0 }), api.OK},
		{with(func(c *api.Command) { c.Qty = most + 1; c.Peak = 0 }), api.ErrQty},
		{with(func(c *api.Command) { c.Qty = math.MaxUint64 }), api.ErrQty},
		{with(func(c *api.Command) { c.Peak = 10 }), api.OK},
		{with(func(c *api.Command) { c.Peak = 11 }), api.ErrPeak},
		{with(func(c *api.Command) { c.Peak = math.MaxUint64; c.ID = 0 }), api.ErrPeak},
		{with(func(c *api.Command) { c.Qty = 512 }), api.OK},
		{with(func(c *api.Command) { c.Qty = 513 }), api.ErrPeak},
		{with(func(c *api.Command) { c.Qty = most; c.Peak = 1 << 24 }), api.OK},
		{with(func(c *api.Command) { c.Qty = most; c.Peak = 1<<24 - 1 }), api.ErrPeak},
		{with(func(c *api.Command) { c.Peak = 1 << 56 }), api.ErrPeak},
		{with(func(c *api.Command) { c.Type = api.PostOnly }), api.OK},
		{with(func(c *api.Command) { c.Type = api.IOC }), api.ErrPeak},
		{with(func(c *api.Command) { c.Type = api.FOK }), api.ErrPeak},
		{with(func(c *api.Command) { c.Type = api.Market; c.Price = 0 }), api.ErrPeak},
		{with(func(c *api.Command) { c.ID = 0 }), api.ErrID},
		{with(func(c *api.Command) { c.ID = math.MaxUint64 }), api.OK},
		// Of Cancel nothing is looked at; of Replace neither Side nor Type.
		{api.Command{Kind: api.Cancel}, api.OK},
		{api.Command{Kind: api.Cancel, Side: -1, Type: 9, Price: -1, Qty: math.MaxUint64, Peak: 9}, api.OK},
		{Replace(0, 1, 5, 10), api.OK},
		{api.Command{Kind: api.Replace, ID: 1, Side: -1, Type: api.Market, Price: 5, Qty: 10, Peak: 2}, api.OK},
		{Replace(0, 1, -1, 10), api.ErrPrice},
		{Replace(0, 1, api.Ticks, 0), api.ErrPrice},
		{Replace(0, 1, 5, 0), api.ErrQty},
		{Peaked(Replace(0, 0, 5, 1), 2), api.ErrPeak},
		{Peaked(Replace(0, 1, 5, 257), 1), api.ErrPeak},
		{Replace(0, 0, 5, 10), api.ErrID},
	} {
		if got := rules.Check(x.c); got != x.want || wantedCheck(x.c) != x.want {
			t.Errorf("%d %+v: got %v, wanted %v (the model: %v)", i, x.c, got, x.want, wantedCheck(x.c))
		}
	}
}

func TestP9_2CheckOfManyCommands(t *testing.T) {
	mix := Mixer(92)
	seen := map[api.Errno]int{}
	for range 300000 {
		c := Wild(&mix, 9, 9)
		want := wantedCheck(c)
		seen[want]++
		same(t, "Check", rules.Check(c), want)
	}
	for _, why := range []api.Errno{0, 90, 92, 93, 94, 95, 96, 97} {
		if seen[why] < 500 {
			t.Errorf("the answer %v was seen %d times", why, seen[why])
		}
	}
}

func TestP9_2TheFirstRefusal(t *testing.T) {
	b := of(t, Buy(1, 5, 1), Buy(2, 5, 1), Sell(5, 9, 1), Order(6, api.Sell, api.PostOnly, 9, 1))
	// The book is full, and 6 is the greatest ID.
	refuses(t, b, api.Command{Kind: 7, ID: 1, Target: 99}, api.ErrKind)
	refuses(t, b, api.Command{ID: 8, Target: 1}, api.ErrKind)
	refuses(t, b, Cancel(99), api.ErrTarget)
	refuses(t, b, Cancel(0), api.ErrTarget)
	refuses(t, b, Cancel(math.MaxUint64), api.ErrTarget)
	refuses(t, b, api.Command{Kind: api.Cancel, ID: 8, Target: 3}, api.ErrTarget)
	refuses(t, b, Replace(99, 0, -1, 0), api.ErrTarget)
	refuses(t, b, Replace(1, 0, -1, 0), api.ErrPrice)
	refuses(t, b, Replace(1, 0, 5, 0), api.ErrQty)
	refuses(t, b, Peaked(Replace(1, 0, 5, 1), 2), api.ErrPeak)
	refuses(t, b, Replace(1, 0, 5, 1), api.ErrID)
	refuses(t, b, Replace(1, 6, 5, 1), api.ErrID)
	refuses(t, b, Replace(6, 6, 5, 1), api.ErrID)
	refuses(t, b, Replace(6, 7, 5, 1), api.ErrCross)
	refuses(t, b, api.Command{Kind: api.New, Target: 1}, api.ErrSide)
	refuses(t, b, Order(0, api.Buy, 9, -1, 0), api.ErrType)
	refuses(t, b, Order(0, api.Buy, api.Limit, -1, 0), api.ErrPrice)
	refuses(t, b, Order(0, api.Buy, api.Limit, 1, 0), api.ErrQty)
	refuses(t, b, Peaked(Order(0, api.Buy, api.IOC, 1, 1), 1), api.ErrPeak)
	refuses(t, b, Buy(0, 1, 1), api.ErrID)
	refuses(t, b, Buy(6, 1, 1), api.ErrID)
	refuses(t, b, Buy(7, 1, 1), api.ErrFull)
	refuses(t, b, Order(7, api.Buy, api.PostOnly, 9, 1), api.ErrFull)
	b.Do(Cancel(2))
	refuses(t, b, Order(7, api.Buy, api.PostOnly, 9, 1), api.ErrCross)
	refuses(t, b, Order(7, api.Sell, api.PostOnly, 5, 1), api.ErrCross)
}

func TestP9_2Cross(t *testing.T) {
	sides := of(t, Buy(1, 5, 1), Sell(2, 7, 1))
	for _, x := range []struct {
		side, price int
		cross       bool
	}{{api.Buy, 6, false}, {api.Buy, 7, true}, {api.Buy, 8, true}, {api.Sell, 6, false}, {api.Sell, 5, true}, {api.Sell, 4, true}} {
		b := loaded(t, sides.Book())
		c := Order(3, x.side, api.PostOnly, x.price, 1)
		if x.cross {
			refuses(t, b, c, api.ErrCross)
		} else {
			tells(t, b, c, Acked(c))
		}
	}
	// Whose the other order is does not matter.
	b := made(t, api.Config{Capacity: 4, Meet: api.MeetOldest})
	b.Do(By(Sell(1, 7, 1), 3))
	refuses(t, b, By(Order(2, api.Buy, api.PostOnly, 7, 1), 3), api.ErrCross)
	// A Replace is of the order's own side and type: a Limit may cross.
	b = of(t, Order(1, api.Buy, api.PostOnly, 5, 1), Buy(2, 5, 1), Sell(3, 7, 1))
	refuses(t, b, Replace(1, 4, 7, 1), api.ErrCross)
	tells(t, b, Replace(1, 4, 6, 1), Ended(1, 1, api.ByReplace), Acked(Order(4, api.Buy, api.PostOnly, 6, 1)))
	tells(t, b, Replace(2, 5, 7, 1), Ended(2, 1, api.ByReplace), Acked(Buy(5, 7, 1)), Traded(5, 3, api.Buy, 7, 1))
}

func TestP9_2Full(t *testing.T) {
	b := made(t, api.Config{Capacity: 2})
	b.Do(Buy(1, 5, 1))
	b.Do(Sell(2, 9, 1))
	// Also one that would trade at once, and rest with nothing.
	refuses(t, b, Buy(3, 9, 1), api.ErrFull)
	for i, kind := range []int{api.IOC, api.FOK} {
		c := Order(uint64(3+i), api.Buy, kind, 8, 1)
		tells(t, b, c, Acked(c), Ended(c.ID, 1, []int{api.ByRest, api.ByFill}[i]))
	}
	tells(t, b, Replace(1, 5, 6, 4), Ended(1, 1, api.ByReplace), Acked(Buy(5, 6, 4)))
	c := Order(6, api.Buy, api.Market, 0, 1)
	tells(t, b, c, Acked(c), Traded(6, 2, api.Buy, 9, 1))
	tells(t, b, Buy(7, 1, 1), Acked(Buy(7, 1, 1)))
	refuses(t, b, Buy(8, 1, 1), api.ErrFull)
}

func TestP9_4Asked(t *testing.T) {
	b := made(t, api.Config{Capacity: 9})
	for _, c := range []api.Command{Buy(1, 5, 2), Buy(2, 7, 1), Peaked(Buy(3, 5, 100), 4), Sell(4, 9, 1), Sell(6, 8, 3), Buy(7, 7, 5)} {
		b.Do(c)
	}
	buys := []api.Level{{Price: 7, Qty: 6, Count: 2}, {Price: 5, Qty: 6, Count: 2}}
	sells := []api.Level{{Price: 8, Qty: 3, Count: 1}, {Price: 9, Qty: 1, Count: 1}}
	before := b.Book()
	for most := range 4 {
		sameList(t, "Depth", b.Depth(api.Buy, most), buys[:min(most, 2)])
		sameList(t, "Depth", b.Depth(api.Sell, most), sells[:min(most, 2)])
		sameList(t, "Depth", b.Depth(api.Sell, -most), nil)
		sameList(t, "Depth", b.Depth(0, most), nil)
		sameList(t, "Depth", b.Depth(3, most), nil)
	}
	sameList(t, "Depth", b.Depth(api.Buy, math.MaxInt), buys)
	sameList(t, "Depth", b.Depth(api.Buy, math.MinInt), nil)
	same(t, "Best", best(b, api.Buy), top{buys[0], true})
	same(t, "Best", best(b, api.Sell), top{sells[0], true})
	for _, side := range []int{0, 3, -1, math.MinInt, math.MaxInt} {
		same(t, "Best", best(b, side), top{})
	}
	same(t, "Find", find(b, 3), found{api.Resting{ID: 3, Type: api.Limit, Price: 5, Visible: 4, Hidden: 96, Peak: 4}, api.Buy, true})
	same(t, "Find", find(b, 6), found{api.Resting{ID: 6, Type: api.Limit, Price: 8, Visible: 3}, api.Sell, true})
	for _, id := range []uint64{0, 5, 8, math.MaxUint64} {
		same(t, "Find", find(b, id), found{})
	}
	same(t, "Len", b.Len(), 6)
	sameBook(t, "Book", b.Book(), before)
}

func TestP9_4EmptySide(t *testing.T) {
	b := of(t, Sell(1, 0, 1))
	same(t, "Best", best(b, api.Buy), top{})
	sameList(t, "Depth", b.Depth(api.Buy, 1), nil)
	same(t, "Best", best(b, api.Sell), top{api.Level{Qty: 1, Count: 1}, true})
}
