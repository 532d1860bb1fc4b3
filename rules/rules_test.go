package rules_test

import (
	"math"
	"testing"

	"bourse/api"
	"bourse/rules"
	. "bourse/sample"
)

func TestP9_1ConfigsThatCantBe(t *testing.T) {
	for _, c := range []api.Config{
		{}, {Capacity: -1}, {Capacity: math.MinInt}, {Capacity: 4097}, {Capacity: math.MaxInt},
		{Capacity: 1, Meet: -1}, {Capacity: 1, Meet: 4}, {Capacity: 1, Meet: math.MinInt}, {Capacity: 1, Meet: math.MaxInt},
	} {
		if b, why := rules.New(c); b != nil || why != api.ErrArg {
			t.Errorf("New(%v): %v, %v", c, b, why)
		}
		Same(t, "Valid", rules.Valid(api.Book{Config: c}), api.ErrBook)
	}
}

func TestP9_1ConfigsThatCanBe(t *testing.T) {
	for _, capacity := range []int{1, 2, 4095, 4096} {
		for meet := range 4 {
			c := api.Config{Capacity: capacity, Meet: meet}
			looked(t, made(t, c), &model{config: c})
			Same(t, "Valid", rules.Valid(api.Book{Config: c}), api.OK)
		}
	}
}

func TestP9_1Valid(t *testing.T) {
	const most = 1<<32 - 1
	for name, x := range map[string]struct {
		spoil func(b *api.Book)
		want  api.Errno
	}{
		"fair":                         {func(b *api.Book) {}, 0},
		"capacity just enough":         {func(b *api.Book) { b.Config.Capacity = 4 }, 0},
		"capacity too small":           {func(b *api.Book) { b.Config.Capacity = 3 }, 120},
		"capacity 0":                   {func(b *api.Book) { b.Config.Capacity = 0 }, 120},
		"capacity too great":           {func(b *api.Book) { b.Config.Capacity = 4097 }, 120},
		"meet":                         {func(b *api.Book) { b.Config.Meet = 4 }, 120},
		"high below an ID":             {func(b *api.Book) { b.High = 8 }, 120},
		"high above all":               {func(b *api.Book) { b.High = math.MaxUint64 }, 0},
		"any Seq":                      {func(b *api.Book) { b.Seq = math.MaxUint64 }, 0},
		"ID 0":                         {func(b *api.Book) { b.Buys[0].ID = 0 }, 120},
		"an ID twice on one side":      {func(b *api.Book) { b.Buys[0].ID = 9 }, 120},
		"an ID twice on both sides":    {func(b *api.Book) { b.Buys[0].ID = 2 }, 120},
		"a sell's ID above high":       {func(b *api.Book) { b.Sells[1].ID = 10 }, 120},
		"a Market":                     {func(b *api.Book) { b.Buys[0].Type = api.Market }, 120},
		"an IOC":                       {func(b *api.Book) { b.Sells[0].Type = api.IOC }, 120},
		"an FOK":                       {func(b *api.Book) { b.Sells[1].Type = api.FOK }, 120},
		"no type":                      {func(b *api.Book) { b.Sells[1].Type = 0 }, 120},
		"a type above all":             {func(b *api.Book) { b.Sells[1].Type = 6 }, 120},
		"price 0":                      {func(b *api.Book) { b.Buys[1].Price = 0 }, 0},
		"price below 0":                {func(b *api.Book) { b.Buys[1].Price = -1 }, 120},
		"the highest price":            {func(b *api.Book) { b.Sells[1].Price = api.Ticks - 1 }, 0},
		"a price above it":             {func(b *api.Book) { b.Sells[1].Price = api.Ticks }, 120},
		"buys that rise":               {func(b *api.Book) { b.Buys[0].Price = 9 }, 120},
		"sells that fall":              {func(b *api.Book) { b.Sells[1].Price = 10 }, 120},
		"sells at one price":           {func(b *api.Book) { b.Sells[1].Price = 11 }, 0},
		"IDs at one price may fall":    {func(b *api.Book) { b.Buys[0].ID, b.Buys[1].ID = 9, 3 }, 0},
		"locked":                       {func(b *api.Book) { b.Sells[0].Price = 10 }, 120},
		"crossed":                      {func(b *api.Book) { b.Sells[0].Price = 9 }, 120},
		"no sells to cross":            {func(b *api.Book) { b.Sells = nil; b.Buys[0].Price = 17 }, 0},
		"no buys to cross":             {func(b *api.Book) { b.Buys = []api.Resting{}; b.Sells[0].Price = 0 }, 0},
		"shows nothing":                {func(b *api.Book) { b.Buys[0].Visible = 0 }, 120},
		"shows the most":               {func(b *api.Book) { b.Buys[0].Visible = most }, 0},
		"shows more":                   {func(b *api.Book) { b.Buys[0].Visible = most + 1 }, 120},
		"hides without a peak":         {func(b *api.Book) { b.Buys[0].Hidden = 1 }, 120},
		"shows its peak":               {func(b *api.Book) { b.Buys[1].Visible = 3 }, 0},
		"shows more than its peak":     {func(b *api.Book) { b.Buys[1].Visible = 4 }, 120},
		"as often as may be":           {func(b *api.Book) { b.Buys[1].Hidden = 3*256 - 2 }, 0},
		"too often":                    {func(b *api.Book) { b.Buys[1].Hidden = 3*256 - 1 }, 120},
		"the greatest peak":            {func(b *api.Book) { b.Buys[1].Peak = most }, 0},
		"a greater peak":               {func(b *api.Book) { b.Buys[1].Peak = most + 1 }, 120},
		"a peak whose product wraps":   {func(b *api.Book) { b.Buys[1].Peak = 1<<56 + 3 }, 120},
		"the most in all":              {func(b *api.Book) { b.Buys[1].Peak, b.Buys[1].Hidden = most, most-2 }, 0},
		"more in all":                  {func(b *api.Book) { b.Buys[1].Peak, b.Buys[1].Hidden = most, most-1 }, 120},
		"a sum that wraps":             {func(b *api.Book) { b.Buys[1].Peak, b.Buys[1].Hidden = most, math.MaxUint64 }, 120},
		"what it hides wraps to order": {func(b *api.Book) { b.Buys[1].Hidden = math.MaxUint64 - 1 }, 120},
	} {
		b := Fair()
		x.spoil(&b)
		if got := rules.Valid(b); got != x.want || wantedValid(b) != x.want {
			t.Errorf("%s: got %v, wanted %v (the model: %v)", name, got, x.want, wantedValid(b))
		}
	}
}

func TestP9_1ValidOfManyBooks(t *testing.T) {
	const most = 1<<32 - 1
	mix := Mixer(91)
	some := func(high uint64) api.Resting {
		r := api.Resting{ID: uint64(mix.Below(int(high))) + 1, Type: Pick(&mix, 1, 1, 1, 5), Price: mix.Below(4), Visible: 1}
		if mix.Below(3) == 0 {
			r.Peak = Pick[uint64](&mix, 1, 2, 100, most)
			r.Visible = Pick(&mix, 1, 2, r.Peak)
			r.Hidden = Pick(&mix, 0, 1, 256*r.Peak-r.Visible, most-r.Visible)
		}
		if mix.Below(40) == 0 {
			r.Hidden = mix.Next()
		}
		return r
	}
	can := 0
	for range 60000 {
		b := api.Book{Config: api.Config{Capacity: 1 + mix.Below(6), Meet: mix.Below(4)}, High: uint64(8 + mix.Below(30))}
		for range mix.Below(3) {
			b.Buys = append(b.Buys, some(b.High))
		}
		for range mix.Below(3) {
			r := some(b.High)
			r.Price += mix.Below(4)
			b.Sells = append(b.Sells, r)
		}
		want := wantedValid(b)
		if want == 0 {
			can++
		}
		Same(t, "Valid", rules.Valid(b), want)
	}
	if can < 5000 || can > 55000 {
		t.Errorf("only %d of the books can be", can)
	}
}

func TestP9_2Check(t *testing.T) {
	const most = 1<<32 - 1
	good := api.Command{Kind: api.New, ID: 1, Side: api.Buy, Type: api.Limit, Price: 5, Qty: 10, Peak: 2}
	with := func(change func(c *api.Command)) api.Command {
		c := good
		change(&c)
		return c
	}
	for i, x := range []struct {
		c    api.Command
		want api.Errno
	}{
		{good, api.OK},
		{with(func(c *api.Command) { c.Kind = 0 }), api.ErrKind},
		{with(func(c *api.Command) { c.Kind = 4 }), api.ErrKind},
		{with(func(c *api.Command) { c.Kind = -1 }), api.ErrKind},
		{api.Command{}, api.ErrKind},
		{with(func(c *api.Command) { c.Side = 0 }), api.ErrSide},
		{with(func(c *api.Command) { c.Side = 3 }), api.ErrSide},
		{with(func(c *api.Command) { c.Side = 0; c.Type = 0 }), api.ErrSide},
		{with(func(c *api.Command) { c.Type = 0 }), api.ErrType},
		{with(func(c *api.Command) { c.Type = 6 }), api.ErrType},
		{with(func(c *api.Command) { c.Type = 6; c.Price = -1 }), api.ErrType},
		{with(func(c *api.Command) { c.Price = -1 }), api.ErrPrice},
		{with(func(c *api.Command) { c.Price = 0 }), api.OK},
		{with(func(c *api.Command) { c.Price = api.Ticks - 1 }), api.OK},
		{with(func(c *api.Command) { c.Price = api.Ticks }), api.ErrPrice},
		{with(func(c *api.Command) { c.Price = api.Ticks; c.Qty = 0 }), api.ErrPrice},
		{Order(1, api.Sell, api.Market, 0, 1), api.OK},
		{Order(1, api.Sell, api.Market, 1, 1), api.ErrPrice},
		{with(func(c *api.Command) { c.Qty = 0 }), api.ErrQty},
		{with(func(c *api.Command) { c.Qty = 0; c.Peak = 0 }), api.ErrQty},
		{with(func(c *api.Command) { c.Qty = most; c.Peak = 0 }), api.OK},
		{with(func(c *api.Command) { c.Qty = most + 1; c.Peak = 0 }), api.ErrQty},
		{with(func(c *api.Command) { c.Qty = math.MaxUint64 }), api.ErrQty},
		{with(func(c *api.Command) { c.Peak = 10 }), api.OK},
		{with(func(c *api.Command) { c.Peak = 11 }), api.ErrPeak},
		{with(func(c *api.Command) { c.Peak = math.MaxUint64; c.ID = 0 }), api.ErrPeak},
		{with(func(c *api.Command) { c.Qty = 512 }), api.OK},
		{with(func(c *api.Command) { c.Qty = 513 }), api.ErrPeak},
		{with(func(c *api.Command) { c.Qty = most; c.Peak = 1 << 24 }), api.OK},
		{with(func(c *api.Command) { c.Qty = most; c.Peak = 1<<24 - 1 }), api.ErrPeak},
		{with(func(c *api.Command) { c.Peak = 1 << 56 }), api.ErrPeak},
		{with(func(c *api.Command) { c.Type = api.PostOnly }), api.OK},
		{with(func(c *api.Command) { c.Type = api.IOC }), api.ErrPeak},
		{with(func(c *api.Command) { c.Type = api.FOK }), api.ErrPeak},
		{with(func(c *api.Command) { c.Type = api.Market; c.Price = 0 }), api.ErrPeak},
		{with(func(c *api.Command) { c.ID = 0 }), api.ErrID},
		{with(func(c *api.Command) { c.ID = math.MaxUint64 }), api.OK},
		// Of Cancel nothing is looked at; of Replace neither Side nor Type.
		{api.Command{Kind: api.Cancel}, api.OK},
		{api.Command{Kind: api.Cancel, Side: -1, Type: 9, Price: -1, Qty: math.MaxUint64, Peak: 9}, api.OK},
		{Replace(0, 1, 5, 10), api.OK},
		{api.Command{Kind: api.Replace, ID: 1, Side: -1, Type: api.Market, Price: 5, Qty: 10, Peak: 2}, api.OK},
		{Replace(0, 1, -1, 10), api.ErrPrice},
		{Replace(0, 1, api.Ticks, 0), api.ErrPrice},
		{Replace(0, 1, 5, 0), api.ErrQty},
		{Peaked(Replace(0, 0, 5, 1), 2), api.ErrPeak},
		{Peaked(Replace(0, 1, 5, 257), 1), api.ErrPeak},
		{Replace(0, 0, 5, 10), api.ErrID},
	} {
		if got := rules.Check(x.c); got != x.want || wantedCheck(x.c) != x.want {
			t.Errorf("%d %+v: got %v, wanted %v (the model: %v)", i, x.c, got, x.want, wantedCheck(x.c))
		}
	}
}

func TestP9_2CheckOfManyCommands(t *testing.T) {
	mix := Mixer(92)
	seen := map[api.Errno]int{}
	for range 300000 {
		c := Wild(&mix, 9, 9)
		want := wantedCheck(c)
		seen[want]++
		Same(t, "Check", rules.Check(c), want)
	}
	for _, why := range []api.Errno{0, 90, 92, 93, 94, 95, 96, 97} {
		if seen[why] < 500 {
			t.Errorf("the answer %v was seen %d times", why, seen[why])
		}
	}
}
