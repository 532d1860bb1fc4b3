package arena

import "bourse/api"

// Queue is nodes of an arena, one behind the other.
type Queue[T any] struct {
	arena       *Arena[T]
	front, back *node[T]
	first       *node[T] // the first that is not dead, kept so that no call goes twice past the dead ones ahead of it
	live, dead  int
}

// NewQueue makes an empty queue of the arena's nodes.
func (a *Arena[T]) NewQueue() *Queue[T] { return &Queue[T]{arena: a} }

// Push puts a node behind all.
func (q *Queue[T]) Push(h api.Handle) api.Errno {
	n := q.arena.find(h)
	switch {
	case n == nil:
		return api.ErrHandle
	case n.queue != nil:
		return api.ErrQueue
	}
	n.queue, n.ahead = q, q.back
	if q.back == nil {
		q.front = n
	} else {
		q.back.behind = n
	}
	q.back = n
	if q.first == nil {
		q.first = n
	}
	q.live++
	return api.OK
}

// First is the first node that is not dead.
func (q *Queue[T]) First() (api.Handle, bool) { return q.first.named() }

// Next is the first node behind one of this queue that is not dead.
func (q *Queue[T]) Next(h api.Handle) (api.Handle, bool) {
	n, why := q.find(h)
	if why != api.OK {
		return api.Handle{}, false
	}
	return n.next().named()
}

// Remove takes a node out of the queue, and leaves it taken.
func (q *Queue[T]) Remove(h api.Handle) api.Errno {
	n, why := q.find(h)
	if why == api.OK {
		q.unlink(n)
	}
	return why
}

// Mark makes a node dead where it stands.
func (q *Queue[T]) Mark(h api.Handle) api.Errno {
	n, why := q.find(h)
	if why != api.OK || n.dead {
		return why
	}
	n.dead = true
	q.live--
	q.dead++
	q.pass(n)
	return api.OK
}

// Pop takes the first node that is not dead out, and drops the dead ones ahead of it.
func (q *Queue[T]) Pop() (api.Handle, bool) {
	n := q.first
	if n == nil {
		return api.Handle{}, false
	}
	q.bury(n)
	q.unlink(n)
	return n.named()
}

// Sweep drops all dead nodes, and tells how many.
func (q *Queue[T]) Sweep() int {
	dead := q.dead
	q.bury(nil)
	return dead
}

// Live is how many of the queue's nodes are not dead.
func (q *Queue[T]) Live() int { return q.live }

// Dead is how many of the queue's nodes are dead.
func (q *Queue[T]) Dead() int { return q.dead }

// All is the nodes that are not dead, in order.
func (q *Queue[T]) All() []api.Handle {
	l := make([]api.Handle, 0, q.live)
	for n := q.first; n != nil; n = n.next() {
		l = append(l, n.Handle)
	}
	return l
}

// find is the node of a good handle that stands in this queue, or what is wrong with the handle.
func (q *Queue[T]) find(h api.Handle) (*node[T], api.Errno) {
	n := q.arena.find(h)
	switch {
	case n == nil:
		return nil, api.ErrHandle
	case n.queue != q:
		return nil, api.ErrQueue
	}
	return n, api.OK
}

// bury drops the dead nodes ahead of one, or all of them (nil), in their order.
func (q *Queue[T]) bury(end *node[T]) {
	for n := q.front; n != end && q.dead > 0; {
		behind := n.behind
		if n.dead {
			q.unlink(n)
			q.arena.release(n)
		}
		n = behind
	}
}

// unlink takes a node out, so that it stands in no queue and is not dead.
func (q *Queue[T]) unlink(n *node[T]) {
	q.pass(n)
	if n.ahead == nil {
		q.front = n.behind
	} else {
		n.ahead.behind = n.behind
	}
	if n.behind == nil {
		q.back = n.ahead
	} else {
		n.behind.ahead = n.ahead
	}
	if n.dead {
		q.dead--
	} else {
		q.live--
	}
	n.queue, n.dead, n.ahead, n.behind = nil, false, nil, nil
}

// pass finds another first node, if this one was it.
func (q *Queue[T]) pass(n *node[T]) {
	if q.first == n {
		q.first = n.next()
	}
}

// next is the first node behind this one that is not dead, or nil.
func (n *node[T]) next() *node[T] {
	for n = n.behind; n != nil && n.dead; n = n.behind {
	}
	return n
}

// named is a node's handle, and whether there is a node.
func (n *node[T]) named() (api.Handle, bool) {
	if n == nil {
		return api.Handle{}, false
	}
	return n.Handle, true
}
