// The tests of what the three engines of a book have in common: each of them is held against what chapter 9 tells, and all of them against one another.
package engines_test

import (
	"testing"

	"bourse/api"
	"bourse/ladder"
	"bourse/rules"
	. "bourse/sample"
	"bourse/treebook"
)

// opener makes an engine, or nothing and an error.
type opener func(c api.Config) (api.Engine, api.Errno)

// each runs a test with every engine.
func each(t *testing.T, test func(t *testing.T, open opener)) {
	t.Run("rules", func(t *testing.T) { test(t, openerOf(rules.New)) })
	t.Run("P10_1treebook", func(t *testing.T) { test(t, openerOf(treebook.New)) })
	t.Run("P11_1ladder", func(t *testing.T) { test(t, openerOf(ladder.New)) })
}

// book is a pointer to one.
type book[B any] interface {
	*B
	api.Engine
}

func openerOf[B any, P book[B]](make func(api.Config) (P, api.Errno)) opener {
	return func(c api.Config) (api.Engine, api.Errno) {
		b, why := make(c)
		if b == nil {
			// An interface value that holds this nil would not be nil itself.
			return nil, why
		}
		return b, why
	}
}

// made is an engine of a config that can be.
func (open opener) made(t *testing.T, c api.Config) api.Engine {
	t.Helper()
	e, why := open(c)
	if e == nil || why != api.OK {
		t.Fatalf("New(%v): %v", c, why)
	}
	return e
}

// of is an engine of the Capacity 4 (of Meet 0) that has done these.
func (open opener) of(t *testing.T, commands ...api.Command) api.Engine {
	t.Helper()
	return did(open.made(t, api.Config{Capacity: 4}), commands)
}

// meeting is an engine of some Meet that has done these.
func (open opener) meeting(t *testing.T, meet int, commands ...api.Command) api.Engine {
	t.Helper()
	return did(open.made(t, api.Config{Capacity: 9, Meet: meet}), commands)
}

// did is an engine that has done these, too.
func did(e api.Engine, commands []api.Command) api.Engine {
	for _, c := range commands {
		e.Do(c)
	}
	return e
}

// loaded is an engine that goes on from a book.
func (open opener) loaded(t *testing.T, x api.Book) api.Engine {
	t.Helper()
	e := open.made(t, api.Config{Capacity: 1})
	Same(t, "Load", e.Load(x), api.OK)
	return e
}

// is asks an engine all that can be asked, where it must keep just that book.
func is(t *testing.T, e api.Engine, want api.Book) {
	t.Helper()
	Keeps(t, e, want)
	wholly(t, e)
}

// wholly holds Len, Depth, Best and Find against Book.
func wholly(t *testing.T, e api.Engine) {
	t.Helper()
	x := e.Book()
	Same(t, "Len", e.Len(), len(x.Buys)+len(x.Sells))
	for i, l := range [][]api.Resting{x.Buys, x.Sells} {
		side := api.Buy + i
		levels := levelsOf(l)
		SameList(t, "Depth", e.Depth(side, len(l)), levels)
		best, there := e.Best(side)
		Same(t, "whether there is a best level", there, len(levels) > 0)
		if there {
			Same(t, "Best", best, levels[0])
		}
		for _, r := range l {
			order, where, there := e.Find(r.ID)
			if order != r || where != side || !there {
				t.Fatalf("Find(%d): %v, %v, %v", r.ID, order, where, there)
			}
		}
	}
}

// levelsOf is the levels that a list of orders makes.
func levelsOf(l []api.Resting) []api.Level {
	var levels []api.Level
	for i, r := range l {
		if i == 0 || l[i-1].Price != r.Price {
			levels = append(levels, api.Level{Price: r.Price})
		}
		last := &levels[len(levels)-1]
		last.Qty += r.Visible
		last.Count++
	}
	return levels
}

// trio is the three engines of one config, on which the same calls are made.
type trio struct {
	list   *rules.Book
	tree   *treebook.Book
	ladder *ladder.Book
}

func trioOf(t *testing.T, c api.Config) trio {
	t.Helper()
	list, why := rules.New(c)
	Same(t, "New of the list", why, api.OK)
	tree, why := treebook.New(c)
	Same(t, "New of the tree", why, api.OK)
	ladder, why := ladder.New(c)
	Same(t, "New of the ladder", why, api.OK)
	return trio{list, tree, ladder}
}

// all is the three, the list first.
func (w trio) all() []api.Engine { return []api.Engine{w.list, w.tree, w.ladder} }

// do does a command of which all must tell the same.
func (w trio) do(t *testing.T, c api.Command) []api.Event {
	t.Helper()
	want := w.list.Do(c)
	SameList(t, "what the tree tells", w.tree.Do(c), want)
	SameList(t, "what the ladder tells", w.ladder.Do(c), want)
	return want
}

// load loads all with one book.
func (w trio) load(t *testing.T, x api.Book) {
	t.Helper()
	want := w.list.Load(x)
	Same(t, "Load of the tree", w.tree.Load(x), want)
	Same(t, "Load of the ladder", w.ladder.Load(x), want)
}

// alike asks all of them all that can be asked.
func (w trio) alike(t *testing.T) {
	t.Helper()
	Alike(t, w.tree, w.list)
	Alike(t, w.ladder, w.list)
}
