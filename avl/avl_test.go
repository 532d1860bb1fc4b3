package avl_test

import (
	"math"
	"slices"
	"testing"

	"bourse/avl"
)

func TestP7_1PutGetDrop(t *testing.T) {
	var tree avl.Tree[string]
	same(t, "Get of none", got(tree.Get(5)), got("", false))
	same(t, "Drop of none", got(tree.Drop(5)), got("", false))
	same(t, "Put", got(tree.Put(5, "a")), got("", false))
	same(t, "Get", got(tree.Get(5)), got("a", true))
	same(t, "Put again", got(tree.Put(5, "b")), got("a", true))
	same(t, "Len", tree.Len(), 1)
	same(t, "Get behind it", got(tree.Get(5)), got("b", true))
	same(t, "Get below", got(tree.Get(4)), got("", false))
	same(t, "Drop above", got(tree.Drop(6)), got("", false))
	same(t, "Drop", got(tree.Drop(5)), got("b", true))
	same(t, "Drop again", got(tree.Drop(5)), got("", false))
	same(t, "Get of it", got(tree.Get(5)), got("", false))
	same(t, "Len", tree.Len(), 0)
	same(t, "Put behind it", got(tree.Put(5, "c")), got("", false))
}

func TestP7_1ZeroValueIsThere(t *testing.T) {
	var tree avl.Tree[*int]
	same(t, "Put", got(tree.Put(0, nil)), got[*int](nil, false))
	same(t, "Get", got(tree.Get(0)), got[*int](nil, true))
	same(t, "Put again", got(tree.Put(0, new(int))), got[*int](nil, true))
	if v, ok := tree.Drop(0); v == nil || !ok {
		t.Error("Drop", v, ok)
	}
}

// Each key of a tree of each small size is put anew and dropped, in each order in which it may have grown.
func TestP7_1EveryShape(t *testing.T) {
	x := mixer(71)
	for n := range 8 {
		keys := make([]int, n)
		for i := range keys {
			keys[i] = 2*i - 5
		}
		orders(keys, func(l []int) {
			grown, want := of(l...)
			flat(t, grown)
			for _, key := range keys {
				tree, rest := grown.Clone(), slices.Clone(want)
				same(t, "Put", got(tree.Put(key, "new")), got(rest.put(key, "new")))
				sameAll(t, "All", tree.All(), rest)
				same(t, "Drop", got(tree.Drop(key)), got(rest.drop(key)))
				flat(t, tree)
				sameAll(t, "All", tree.All(), rest)
			}
			sameAll(t, "All of what it came from", grown.All(), want)
		})
	}
	tree, want := of(3, 1, 2)
	looked(t, tree, want, &x)
}

func TestP7_1AnyInt(t *testing.T) {
	x := mixer(72)
	tree, want := of(odd...)
	looked(t, tree, want, &x)
	for _, key := range odd {
		same(t, "Drop", got(tree.Drop(key)), got(want.drop(key)))
		looked(t, tree, want, &x)
	}
}

func TestP7_2Ends(t *testing.T) {
	none := got(0, false)
	var tree avl.Tree[int]
	same(t, "Min of none", got(tree.Min()), none)
	same(t, "Max of none", got(tree.Max()), none)
	same(t, "Below in none", got(tree.Below(math.MaxInt)), none)
	same(t, "Above in none", got(tree.Above(math.MinInt)), none)
	for _, key := range []int{7, -3, 40} {
		tree.Put(key, 0)
	}
	same(t, "Min", got(tree.Min()), got(-3, true))
	same(t, "Max", got(tree.Max()), got(40, true))
	for _, c := range []struct {
		key          int
		below, above found[int]
	}{
		{math.MinInt, none, got(-3, true)},
		{-4, none, got(-3, true)},
		{-3, none, got(7, true)},
		{-2, got(-3, true), got(7, true)},
		{7, got(-3, true), got(40, true)},
		{8, got(7, true), got(40, true)},
		{40, got(7, true), none},
		{41, got(40, true), none},
		{math.MaxInt, got(40, true), none},
	} {
		same(t, "Below", got(tree.Below(c.key)), c.below)
		same(t, "Above", got(tree.Above(c.key)), c.above)
	}
}

func TestP7_2KeyZero(t *testing.T) {
	tree, _ := of(0)
	same(t, "Min", got(tree.Min()), got(0, true))
	same(t, "Max", got(tree.Max()), got(0, true))
	same(t, "Below", got(tree.Below(1)), got(0, true))
	same(t, "Above", got(tree.Above(-1)), got(0, true))
	same(t, "At", got(tree.At(0)), got(0, true))
}

func TestP7_3Ranks(t *testing.T) {
	var tree avl.Tree[string]
	same(t, "Len of none", tree.Len(), 0)
	same(t, "Rank in none", tree.Rank(3), 0)
	same(t, "At of none", got(tree.At(0)), got(0, false))
	for key := 1; key <= 7; key++ {
		tree.Put(key, "")
		tree.Put(key, "again")
		same(t, "Len", tree.Len(), key)
	}
	for _, c := range [][2]int{{math.MinInt, 0}, {0, 0}, {1, 0}, {2, 1}, {4, 3}, {7, 6}, {8, 7}, {100, 7}, {math.MaxInt, 7}} {
		same(t, "Rank", tree.Rank(c[0]), c[1])
	}
	for rank := range 7 {
		same(t, "At", got(tree.At(rank)), got(rank+1, true))
	}
	for _, rank := range []int{math.MinInt, -1, 7, 8, math.MaxInt} {
		same(t, "At", got(tree.At(rank)), got(0, false))
	}
	tree.Drop(4)
	same(t, "Len", tree.Len(), 6)
	same(t, "Rank of what is gone", tree.Rank(4), 3)
	same(t, "At", got(tree.At(3)), got(5, true))
}

func TestP7_4AllAndBack(t *testing.T) {
	tree, want := of(2, 9, -4, 0, 6, 1)
	sameAll(t, "All", tree.All(), want)
	sameAll(t, "Back", tree.Back(), want.backward())
	same(t, "first", pairs(tree.All())[0], pair{-4, name(-4)})
	var none avl.Tree[string]
	sameAll(t, "All of none", none.All(), nil)
	sameAll(t, "Back of none", none.Back(), nil)
}

func TestP7_4StopsWhereItIsStopped(t *testing.T) {
	var keys []int
	for key := range 40 {
		keys = append(keys, key)
	}
	tree, want := of(keys...)
	for stop := 1; stop <= len(keys); stop++ {
		sameAll(t, "All", until(tree.All(), stop), want[:stop])
		sameAll(t, "Back", until(tree.Back(), stop), want.backward()[:stop])
	}
}

func TestP7_4ChangedOnTheWay(t *testing.T) {
	for _, back := range []bool{false, true} {
		var keys []int
		for key := range 30 {
			keys = append(keys, 2*key)
		}
		tree, want := of(keys...)
		seq, first := tree.All(), slices.Clone(want)
		if back {
			seq, first = tree.Back(), want.backward()
		}
		var l model
		for key, v := range seq {
			l = append(l, pair{key, v})
			for _, k := range []int{key - 1, key + 1, key + 3, 58 - key} {
				tree.Put(k, "new")
				want.put(k, "new")
			}
			for _, k := range []int{key, key + 2, key - 2} {
				tree.Drop(k)
				want.drop(k)
			}
		}
		if !slices.Equal(l, first) {
			t.Fatalf("back %v: got %v, wanted %v", back, l, first)
		}
		if back {
			want = want.backward()
		}
		sameAll(t, "again", seq, want)
	}
}

// The tree is seen as it is when the going begins, not when the iterator is asked for.
func TestP7_4BeginsLater(t *testing.T) {
	tree, want := of(1, 2)
	all, back := tree.All(), tree.Back()
	tree.Put(3, "c")
	want.put(3, "c")
	tree.Drop(1)
	want.drop(1)
	sameAll(t, "All", all, want)
	sameAll(t, "Back", back, want.backward())
}

func TestP7_4OneWithinTheOther(t *testing.T) {
	tree, want := of(5, 3, 8, 1)
	var l model
	for key, v := range tree.All() {
		l = append(l, pair{key, v})
		sameAll(t, "Back within", tree.Back(), want.backward())
		for range tree.All() {
			break
		}
	}
	if !slices.Equal(l, want) {
		t.Error(l)
	}
}

func TestP7_5CloneKnowsNothing(t *testing.T) {
	x := mixer(75)
	tree, want := of(4, 2, 6, 1, 3, 5, 7)
	clone, other := tree.Clone(), slices.Clone(want)
	looked(t, clone, other, &x)
	same(t, "Put", got(tree.Put(4, "new")), got(want.put(4, "new")))
	tree.Drop(1)
	want.drop(1)
	looked(t, clone, other, &x)
	clone.Drop(7)
	other.drop(7)
	clone.Put(9, "nine")
	other.put(9, "nine")
	looked(t, tree, want, &x)
	looked(t, clone, other, &x)
	var none avl.Tree[string]
	empty := none.Clone()
	none.Put(1, "a")
	looked(t, empty, nil, &x)
	empty.Put(2, "b")
	sameAll(t, "All", none.All(), model{{1, "a"}})
}

func TestP7_6HeightOfFew(t *testing.T) {
	var none avl.Tree[int]
	same(t, "Height of none", none.Height(), 0)
	for n, heights := range [][]int{{0}, {1}, {2}, {2}, {3}, {3}, {3}, {3, 4}} {
		keys := make([]int, n)
		for i := range keys {
			keys[i] = i + 1
		}
		orders(keys, func(l []int) {
			tree, _ := of(l...)
			if h := tree.Height(); !slices.Contains(heights, h) {
				t.Fatalf("%v: Height %d", l, h)
			}
		})
	}
}

func TestP7_6FlatAsItGrowsAndShrinks(t *testing.T) {
	x := mixer(76)
	const n = 3000
	mixed := make([]int, n)
	for i := range mixed {
		j := x.below(i + 1)
		mixed[i], mixed[j] = mixed[j], i
	}
	zigzag := make([]int, n)
	for i := range zigzag {
		zigzag[i] = i / 2
		if i%2 == 1 {
			zigzag[i] = n - 1 - i/2
		}
	}
	rising := slices.Sorted(slices.Values(mixed))
	falling := slices.Clone(rising)
	slices.Reverse(falling)
	all := [][]int{mixed, zigzag, rising, falling}
	for _, in := range all {
		for _, out := range all {
			var tree avl.Tree[int]
			for _, key := range in {
				tree.Put(key, key)
				flat(t, &tree)
			}
			for _, key := range out {
				tree.Drop(key)
				flat(t, &tree)
			}
			same(t, "Len", tree.Len(), 0)
		}
	}
}
