package index

import "math/bits"

// spread is by what a key is multiplied, so that keys that are near one another have homes far from one another.
const spread = 0x9e3779b97f4a7c15

// placesFor is the least power of two that is at least twice the room.
func placesFor(room int) int { return 1 << bits.Len(uint(2*room-1)) }

// home is the place of a key among so many places, a power of two: the highest bits of its product tell it.
func home(key uint64, places int) int {
	high, _ := bits.Mul64(key*spread, uint64(places))
	return int(high)
}

// find is the place where a key stands, or else the one into which it would be put.
func (x *Index[V]) find(key uint64) (int, bool) {
	at := x.Home(key)
	// An index that New did not make has no place to look at.
	for range x.places {
		p := &x.places[at]
		if !p.Used || p.Key == key {
			return at, p.Used
		}
		at = x.next(at)
	}
	return 0, false
}

// empty takes what stands in a place out, and lets those behind it move up that would not be found any more.
func (x *Index[V]) empty(hole int) {
	for at := x.next(hole); x.places[at].Used; at = x.next(at) {
		if x.steps(x.Home(x.places[at].Key), at) >= x.steps(hole, at) {
			x.places[hole] = x.places[at]
			hole = at
		}
	}
	// What the value points to is not to be kept either.
	x.places[hole] = place[V]{}
}

// next is the place behind one.
func (x *Index[V]) next(at int) int { return (at + 1) & (len(x.places) - 1) }

// steps is how far it is from one place on to another one.
func (x *Index[V]) steps(from, to int) int { return (to - from) & (len(x.places) - 1) }
