package avl

// deepest is the height of the highest tree of at most 2^31 - 1 keys: one that is higher has F(45) of them at least, which are more.
const deepest = 44

// path is nodes on the way down, each one under the one ahead of it.
type path[V any] struct {
	nodes [deepest]*node[V]
	steps int
}

func (p *path[V]) step(n *node[V]) {
	p.nodes[p.steps] = n
	p.steps++
}

// back takes the last step back: the node from which it went on.
func (p *path[V]) back() *node[V] {
	p.steps--
	return p.nodes[p.steps]
}

// down goes to a key: its node, or nil. The path is the nodes over the key's place.
func (p *path[V]) down(n *node[V], key int) *node[V] {
	for n != nil && n.key != key {
		p.step(n)
		n = n.under[sideOf(key, n.key)]
	}
	return n
}

// up puts a subtree in the place of a key to which the path goes: the top of all that.
func (p *path[V]) up(key int, under *node[V]) *node[V] {
	for p.steps > 0 {
		n := p.back()
		under = n.with(sideOf(key, n.key), under).flat()
	}
	return under
}

// along goes to the end of one side, the last node included.
func (p *path[V]) along(n *node[V], side int) {
	for ; n != nil; n = n.under[side] {
		p.step(n)
	}
}
