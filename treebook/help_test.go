package treebook_test

import (
	"slices"
	"testing"

	"bourse/api"
	"bourse/rules"
	. "bourse/sample"
	"bourse/treebook"
)

// The tests hold a treebook against the rules book, its twin, and against what chapter 9 tells in so many words.

// twins are two books of one config on which the same calls are made.
type twins struct {
	tree *treebook.Book
	list *rules.Book
}

func made(t *testing.T, c api.Config) *treebook.Book {
	t.Helper()
	b, why := treebook.New(c)
	if b == nil || why != api.OK {
		t.Fatalf("New(%v): %v", c, why)
	}
	return b
}

// of is a book of the Capacity 9 that has done these.
func of(t *testing.T, meet int, commands ...api.Command) *treebook.Book {
	t.Helper()
	b := made(t, api.Config{Capacity: 9, Meet: meet})
	for _, c := range commands {
		b.Do(c)
	}
	return b
}

func loaded(t *testing.T, x api.Book) *treebook.Book {
	t.Helper()
	b := made(t, api.Config{Capacity: 1})
	same(t, "Load", b.Load(x), api.OK)
	return b
}

func twinsOf(t *testing.T, c api.Config) twins {
	t.Helper()
	list, _ := rules.New(c)
	return twins{made(t, c), list}
}

// do does a command of which both must tell the same.
func (w twins) do(t *testing.T, c api.Command) []api.Event {
	t.Helper()
	want := w.list.Do(c)
	sameList(t, "Do", w.tree.Do(c), want)
	return want
}

// load loads both with one book.
func (w twins) load(t *testing.T, x api.Book) {
	t.Helper()
	same(t, "Load", w.tree.Load(x), w.list.Load(x))
}

// alike asks both all that can be asked.
func (w twins) alike(t *testing.T) {
	t.Helper()
	alike(t, w.tree, w.list)
	shaped(t, w.tree)
}

func alike(t *testing.T, a, b api.Engine) {
	t.Helper()
	if call := Differ(a, b); call != "" {
		t.Fatalf("%s is answered differently: by %+v and %+v", call, a.Book(), b.Book())
	}
}

// is asks a book all that can be asked, where it must keep just that.
func is(t *testing.T, b *treebook.Book, want api.Book) {
	t.Helper()
	list, _ := rules.New(api.Config{Capacity: 1})
	same(t, "Load", list.Load(want), api.OK)
	twins{b, list}.alike(t)
}

// shaped holds Levels and Heights against the book.
func shaped(t *testing.T, b *treebook.Book) {
	t.Helper()
	x := b.Book()
	buys, sells := b.Levels()
	same(t, "Levels of the buys", buys, prices(x.Buys))
	same(t, "Levels of the sells", sells, prices(x.Sells))
	g, h := b.Heights()
	flat(t, g, buys)
	flat(t, h, sells)
}

// prices is how many there are.
func prices(l []api.Resting) int {
	seen := map[int]bool{}
	for _, r := range l {
		seen[r.Price] = true
	}
	return len(seen)
}

// flat holds a height against how many prices there are.
func flat(t *testing.T, h, n int) {
	t.Helper()
	if h < 0 || n < fewest(h) || n >= 1<<h {
		t.Fatalf("%d prices stand %d high", n, h)
	}
}

// fewest is F of P10.3.
func fewest(h int) int {
	a, b := 0, 1
	for range h {
		a, b = b, a+b+1
	}
	return a
}

// heights is what Heights answers.
func heights(b *treebook.Book) [2]int {
	g, h := b.Heights()
	return [2]int{g, h}
}

// levels is what Levels answers.
func levels(b *treebook.Book) [2]int {
	m, n := b.Levels()
	return [2]int{m, n}
}

// tells does a command that must tell these events, numbered from the book's Seq on.
func tells(t *testing.T, b *treebook.Book, c api.Command, want ...api.Event) {
	t.Helper()
	seq := b.Book().Seq
	sameList(t, "Do", b.Do(c), Numbered(seq, want...))
	same(t, "Seq", b.Book().Seq, seq+uint64(len(want)))
}

// refuses does a command that must be refused, and change nothing but Seq.
func refuses(t *testing.T, b *treebook.Book, c api.Command, why api.Errno) {
	t.Helper()
	x := b.Book()
	x.Seq++
	tells(t, b, c, Rejected(c, why))
	is(t, b, x)
}

func same[T comparable](t *testing.T, what string, a, b T) {
	t.Helper()
	if a != b {
		t.Fatalf("%s: got %+v, wanted %+v", what, a, b)
	}
}

func sameList[T comparable](t *testing.T, what string, a, b []T) {
	t.Helper()
	if !slices.Equal(a, b) {
		t.Fatalf("%s: got %+v, wanted %+v", what, a, b)
	}
}

// fair is a book with which nothing is wrong.
func fair() api.Book {
	return api.Book{
		Config: api.Config{Capacity: 4, Meet: api.MeetOldest},
		Buys:   []api.Resting{{ID: 3, Member: 7, Type: api.Limit, Price: 10, Visible: 5}, {ID: 9, Type: api.PostOnly, Price: 10, Visible: 2, Hidden: 4, Peak: 3}},
		Sells:  []api.Resting{{ID: 2, Type: api.Limit, Price: 11, Visible: 1, Peak: 1}, {ID: 1, Type: api.Limit, Price: 12, Visible: 1}},
		High:   9,
		Seq:    40,
	}
}
