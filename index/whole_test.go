package index_test

import (
	"math"
	"slices"
	"testing"
)

// some are keys of which many have one home, and many of the homes are at the table's ends.
func some(mix *mixer, places, count int) []uint64 {
	homes := []int{0, 1, places - 1, places - 2, mix.below(places), mix.below(places)}
	l := slices.Clone(odd)
	for range count {
		l = append(l, keyAt((homes[mix.below(len(homes))]+places)%places, places, mix.next()>>40))
	}
	return l
}

func TestP8_6AMap(t *testing.T) {
	mix := mixer(8)
	for _, room := range []int{1, 2, 3, 4, 7, 8, 16, 31} {
		for range 12 {
			x, want := made(t, room), modelOf(room)
			keys := some(&mix, len(want.places), 2*room)
			for step := range 150 {
				turn(t, &mix, x, want, keys[mix.below(len(keys))], step)
				looked(t, x, want, keys)
			}
		}
	}
}

func TestP8_6ManyKeys(t *testing.T) {
	const room = 5000
	mix := mixer(9)
	x := made(t, room)
	want := map[uint64]string{}
	for step := range 60000 {
		key := uint64(mix.below(3 * room))
		if mix.below(4) == 0 {
			key = keyAt(16383, 16384, key%100)
		}
		old, there := want[key]
		same(t, "Get", got(x.Get(key)), found{old, there})
		switch {
		case there && mix.below(2) == 0:
			same(t, "Drop", got(x.Drop(key)), found{old, true})
			delete(want, key)
		case !there && len(want) < room:
			v := name(uint64(step))
			x.Put(key, v)
			want[key] = v
		}
		same(t, "Len", x.Len(), len(want))
		if step%6000 == 0 {
			whole(t, x)
		}
	}
	for key, v := range x.All() {
		same(t, "All", v, want[key])
	}
	whole(t, x)
}

func TestP8_7NoGapsInEveryOrder(t *testing.T) {
	// Every order in which four keys can be put, and every one in which they can be dropped, for all homes in a table of 8.
	mix := mixer(7)
	orders := ordersOf(4)
	for range 60 {
		var keys []uint64
		for i := range 4 {
			keys = append(keys, keyAt((6+mix.below(4))%8, 8, uint64(i)))
		}
		for _, in := range orders {
			for _, out := range orders {
				x, want := made(t, 4), modelOf(4)
				for _, i := range in {
					same(t, "Put", x.Put(keys[i], name(uint64(i))), want.put(keys[i], name(uint64(i))))
				}
				for _, i := range out {
					same(t, "Drop", got(x.Drop(keys[i])), got(want.drop(keys[i])))
					sameList(t, "Slots", x.Slots(), want.slots())
					whole(t, x)
				}
			}
		}
	}
}

func TestP8_7GreatestRoom(t *testing.T) {
	const room = 1 << 16
	x := made(t, room)
	for i := range uint64(room) {
		x.Put(i*i, "")
	}
	whole(t, x)
	for i := range uint64(room) {
		if i%3 != 0 {
			x.Drop(i * i)
		}
	}
	whole(t, x)
	same(t, "Len", x.Len(), (room+2)/3)
	x.Put(math.MaxUint64, "")
	whole(t, x)
}

func TestP8_8NoTraces(t *testing.T) {
	mix := mixer(88)
	for range 300 {
		const room = 16
		keys := some(&mix, 32, 40)
		slices.Sort(keys)
		keys = shuffled(&mix, slices.Compact(keys))
		stay, gone := keys[:8], keys[8:16]
		plain := of(t, room, shuffled(&mix, stay)...)
		// The others come and go, in whatever order, between those that stay.
		both := of(t, room, shuffled(&mix, keys[:16])...)
		for _, key := range shuffled(&mix, gone) {
			both.Drop(key)
		}
		sameList(t, "used places", used(both), used(plain))
		sameList(t, "All", pairsOf(both.All()), pairsOf(plain.All()))
		again := of(t, room, keys[20:30]...)
		again.Clear()
		for _, key := range shuffled(&mix, stay) {
			again.Put(key, name(key))
		}
		sameList(t, "used places", used(again), used(plain))
		for _, key := range shuffled(&mix, stay) {
			both.Drop(key)
		}
		sameList(t, "used places", used(both), make([]bool, 32))
	}
}
