package index_test

import (
	"math"
	"slices"
	"testing"

	"bourse/api"
	"bourse/index"
)

func TestP8_1RoomsThatCantBe(t *testing.T) {
	for _, room := range []int{0, -1, -2, math.MinInt, math.MinInt32, api.MaxIndex + 1, 2 * api.MaxIndex, math.MaxInt32, math.MaxInt} {
		x, why := index.New[string](room)
		if x != nil || why != api.ErrArg {
			t.Errorf("New(%d): %v, %v", room, x, why)
		}
	}
}

func TestP8_1RoomAndPlaces(t *testing.T) {
	rooms := []int{1000, 4095, 4096, 4097, 32767, 32768, 32769, api.MaxIndex - 1, api.MaxIndex}
	for room := range 70 {
		rooms = append(rooms, room+1)
	}
	for _, room := range rooms {
		x := made(t, room)
		same(t, "Room", x.Room(), room)
		same(t, "Len", x.Len(), 0)
		sameList(t, "Slots", x.Slots(), modelOf(room).slots())
		sameList(t, "All", pairsOf(x.All()), nil)
	}
}

func TestP8_1Len(t *testing.T) {
	x := made(t, 3)
	for i, key := range []uint64{8, 0, 16} {
		x.Put(key, "")
		same(t, "Len", x.Len(), i+1)
	}
	x.Put(24, "")
	x.Put(8, "")
	x.Drop(24)
	same(t, "Len", x.Len(), 3)
	x.Drop(8)
	same(t, "Len", x.Len(), 2)
	same(t, "Room", x.Room(), 3)
}

func TestP8_2Put(t *testing.T) {
	x := made(t, 3)
	same(t, "Put", x.Put(0, "a"), api.OK)
	same(t, "Put again", x.Put(0, "b"), api.ErrThere)
	same(t, "Put", x.Put(8, "b"), api.OK)
	same(t, "Put", x.Put(16, "c"), api.OK)
	same(t, "Put without room", x.Put(24, "d"), api.ErrIndex)
	// What is there already is told ahead of the room.
	same(t, "Put again without room", x.Put(16, "d"), api.ErrThere)
	sameList(t, "All", pairsOf(x.All()), []pair{{0, "a"}, {8, "b"}, {16, "c"}})
	same(t, "Get", got(x.Get(24)), found{})
	same(t, "Drop", got(x.Drop(8)), found{"b", true})
	same(t, "Put", x.Put(24, "d"), api.OK)
	same(t, "Put without room", x.Put(8, "b"), api.ErrIndex)
}

func TestP8_2RefusedPutChangesNothing(t *testing.T) {
	x := of(t, 2, 0, 2)
	before := x.Slots()
	for _, key := range append([]uint64{0, 2, 4, 5}, odd...) {
		if x.Put(key, "other") == api.OK {
			t.Fatalf("Put(%d) beyond the room", key)
		}
		sameList(t, "Slots", x.Slots(), before)
		sameList(t, "All", pairsOf(x.All()), []pair{{0, name(0)}, {2, name(2)}})
	}
}

func TestP8_2FullTable(t *testing.T) {
	for _, room := range []int{1, 2, 5, 64, api.MaxIndex} {
		x := made(t, room)
		for i := range room {
			same(t, "Put", x.Put(uint64(i)*3, ""), api.OK)
		}
		same(t, "Put", x.Put(1, ""), api.ErrIndex)
		same(t, "Put", x.Put(0, ""), api.ErrThere)
		same(t, "Len", x.Len(), room)
		whole(t, x)
	}
}

func TestP8_3GetAndDrop(t *testing.T) {
	x := of(t, 4, 3, 5)
	same(t, "Get", got(x.Get(3)), found{name(3), true})
	same(t, "Get", got(x.Get(4)), found{})
	same(t, "Drop", got(x.Drop(4)), found{})
	same(t, "Len", x.Len(), 2)
	same(t, "Drop", got(x.Drop(3)), found{name(3), true})
	same(t, "Drop again", got(x.Drop(3)), found{})
	same(t, "Get", got(x.Get(3)), found{})
	same(t, "Get", got(x.Get(5)), found{name(5), true})
	same(t, "Put", x.Put(3, "new"), api.OK)
	same(t, "Get", got(x.Get(3)), found{"new", true})
}

func TestP8_3KeyZero(t *testing.T) {
	// The key 0 is not to be taken for a place without a key.
	x := made(t, 2)
	same(t, "Get", got(x.Get(0)), found{})
	same(t, "Drop", got(x.Drop(0)), found{})
	same(t, "Put", x.Put(0, "a"), api.OK)
	same(t, "Get", got(x.Get(0)), found{"a", true})
	sameList(t, "Slots", x.Slots(), []api.Slot{{Used: true}, {}, {}, {}})
	same(t, "Drop", got(x.Drop(0)), found{"a", true})
	sameList(t, "Slots", x.Slots(), make([]api.Slot, 4))
}

func TestP8_3OddKeys(t *testing.T) {
	x, want := made(t, len(odd)), modelOf(len(odd))
	for _, key := range odd {
		same(t, "Put", x.Put(key, name(key)), want.put(key, name(key)))
		looked(t, x, want, odd)
	}
	for _, key := range odd {
		same(t, "Drop", got(x.Drop(key)), got(want.drop(key)))
		looked(t, x, want, odd)
	}
}

func TestP8_3OtherValues(t *testing.T) {
	numbers, _ := index.New[[2]int](2)
	numbers.Put(7, [2]int{1, 2})
	if v, ok := numbers.Get(7); !ok || v != [2]int{1, 2} {
		t.Error(v, ok)
	}
	if v, ok := numbers.Get(8); ok || v != [2]int{} {
		t.Error(v, ok)
	}
	errs, _ := index.New[error](2)
	errs.Put(7, nil)
	if v, ok := errs.Get(7); !ok || v != nil {
		t.Error(v, ok)
	}
}

func TestP8_4AllRises(t *testing.T) {
	x := of(t, 16, 9, 1<<63, 2, math.MaxUint64, 0, math.MaxInt64)
	want := []pair{{0, name(0)}, {2, name(2)}, {9, name(9)}, {math.MaxInt64, name(math.MaxInt64)}, {1 << 63, name(0)}, {math.MaxUint64, name(math.MaxUint64)}}
	sameList(t, "All", pairsOf(x.All()), want)
}

func TestP8_4AllMayBeStopped(t *testing.T) {
	x := of(t, 4, 4, 1, 3)
	seq := x.All()
	for n := 1; n <= 3; n++ {
		var seen []uint64
		for key := range seq {
			seen = append(seen, key)
			if len(seen) == n {
				break
			}
		}
		sameList(t, "All", seen, []uint64{1, 3, 4}[:n])
	}
	sameList(t, "All again", pairsOf(seq), pairsOf(x.All()))
}

func TestP8_4AllIsAsItWasWhenTheGoingBegan(t *testing.T) {
	x := of(t, 4, 1, 2, 3)
	seq := x.All()
	// What comes ahead of the going is seen.
	x.Put(0, "zero")
	x.Drop(2)
	var seen []pair
	for key, v := range seq {
		if len(seen) == 0 {
			x.Drop(3)
			x.Drop(0)
			x.Put(7, "seven")
			x.Drop(1)
			x.Put(1, "another one")
		}
		seen = append(seen, pair{key, v})
	}
	sameList(t, "All", seen, []pair{{0, "zero"}, {1, name(1)}, {3, name(3)}})
	sameList(t, "All again", pairsOf(seq), []pair{{1, "another one"}, {7, "seven"}})
	seen = nil
	for key, v := range seq {
		x.Clear()
		seen = append(seen, pair{key, v})
	}
	sameList(t, "All", seen, []pair{{1, "another one"}, {7, "seven"}})
	sameList(t, "All again", pairsOf(seq), nil)
}

func TestP8_4TwoGoingsAtOnce(t *testing.T) {
	x := of(t, 4, 1, 2, 3)
	seq := x.All()
	n := 0
	for outer := range seq {
		x.Drop(outer)
		for range seq {
			n++
		}
	}
	same(t, "inner steps", n, 2+1+0)
}

func TestP8_4Clear(t *testing.T) {
	x := of(t, 3, 0, 8, 16)
	x.Clear()
	same(t, "Len", x.Len(), 0)
	same(t, "Room", x.Room(), 3)
	sameList(t, "Slots", x.Slots(), make([]api.Slot, 8))
	sameList(t, "All", pairsOf(x.All()), nil)
	for _, key := range []uint64{0, 8, 16} {
		same(t, "Get", got(x.Get(key)), found{})
		same(t, "Drop", got(x.Drop(key)), found{})
		same(t, "Put", x.Put(key, "again"), api.OK)
	}
	same(t, "Put", x.Put(24, ""), api.ErrIndex)
	x.Clear()
	x.Clear()
	same(t, "Len", x.Len(), 0)
}

func TestP8_5Home(t *testing.T) {
	same(t, "Home(1)", made(t, 3).Home(1), 4)
	x := made(t, 2)
	for key, home := range []int{0, 2, 0, 3, 1, 0} {
		same(t, "Home", x.Home(uint64(key)), home)
	}
	var mix mixer
	for _, room := range []int{1, 2, 3, 4, 5, 100, 4096, api.MaxIndex} {
		x, places := made(t, room), len(modelOf(room).places)
		for _, key := range odd {
			same(t, "Home", x.Home(key), homeOf(key, places))
		}
		for range 200 {
			key := mix.next()
			want := homeOf(key, places)
			same(t, "Home", x.Home(key), want)
			x.Put(key, "")
			same(t, "Home of a key that is there", x.Home(key), want)
		}
	}
}

func TestP8_5Slots(t *testing.T) {
	x := of(t, 2, 0, 2)
	want := []api.Slot{{Used: true, Key: 0}, {Used: true, Key: 2}, {}, {}}
	slots := x.Slots()
	sameList(t, "Slots", slots, want)
	// An answer is new memory.
	for i := range slots[:cap(slots)] {
		slots[:cap(slots)][i] = api.Slot{Used: true, Key: 99}
	}
	sameList(t, "Slots", x.Slots(), want)
	same(t, "Get", got(x.Get(2)), found{name(2), true})
	slots = x.Slots()
	x.Clear()
	sameList(t, "Slots of before", slots, want)
}

func TestP8_5PlacesOfThePut(t *testing.T) {
	// Three keys with one home, the last place: the next ones go round to the place 0.
	last := []uint64{keyAt(7, 8, 0), keyAt(7, 8, 1), keyAt(7, 8, 2)}
	x := of(t, 4, last...)
	sameList(t, "Slots", x.Slots(), []api.Slot{{Used: true, Key: last[1]}, {Used: true, Key: last[2]}, {}, {}, {}, {}, {}, {Used: true, Key: last[0]}})
	zero := keyAt(0, 8, 5)
	x.Put(zero, "")
	same(t, "place of the fourth", slices.Index(x.Slots(), api.Slot{Used: true, Key: zero}), 2)
}

func TestP8_5PlacesOfTheDrop(t *testing.T) {
	x := of(t, 2, 0, 2)
	x.Drop(0)
	same(t, "2 moves", standing(x), "c---")
	x.Put(4, "")
	same(t, "4 behind it", standing(x), "ce--")
	y := of(t, 2, 0, 4)
	y.Drop(0)
	same(t, "4 stays", standing(y), "-e--")
	// One that stays is passed by: who stands behind it may move.
	a, b, c, d := keyAt(7, 8, 0), keyAt(0, 8, 0), keyAt(7, 8, 1), keyAt(2, 8, 0)
	z := of(t, 4, a, b, c, d)
	z.Drop(a)
	want := make([]api.Slot, 8)
	want[7], want[0], want[2] = api.Slot{Used: true, Key: c}, api.Slot{Used: true, Key: b}, api.Slot{Used: true, Key: d}
	sameList(t, "Slots", z.Slots(), want)
}

func TestP8_1TwoIndexesKnowNothingOfOneAnother(t *testing.T) {
	a, b := made(t, 2), made(t, 2)
	a.Put(1, "a")
	same(t, "Get", got(b.Get(1)), found{})
	b.Put(1, "b")
	a.Clear()
	same(t, "Get", got(b.Get(1)), found{"b", true})
}

func TestP8_1IndexThatNewDidNotMake(t *testing.T) {
	// What it answers is open, but no call may panic.
	var x index.Index[string]
	for _, key := range odd {
		x.Get(key)
		x.Drop(key)
		x.Put(key, "")
		x.Home(key)
	}
	x.Len()
	x.Room()
	x.Slots()
	pairsOf(x.All())
	x.Clear()
}
