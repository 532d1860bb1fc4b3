package avl

// The two subtrees of a node: that of lesser keys, and that of greater ones.
const (
	less = 0
	more = 1
)

// node is a key with its value over two subtrees, none of which is higher than the other one by more than one. It is not changed once it is made: trees and those who go through them may share it, and a tree that changes gets other nodes on the way down to the change.
type node[V any] struct {
	key    int
	value  V
	under  [2]*node[V]
	height int
	size   int
}

func leaf[V any](key int, v V) *node[V] {
	return &node[V]{key: key, value: v, height: 1, size: 1}
}

// sideOf is where a key stands that is not that of the node itself.
func sideOf(key, nodeKey int) int {
	if key < nodeKey {
		return less
	}
	return more
}

// keyOf is a node's key, and whether there is such a node.
func keyOf[V any](n *node[V]) (int, bool) {
	if n == nil {
		return 0, false
	}
	return n.key, true
}

// valueOf is a node's value, and whether there is such a node.
func valueOf[V any](n *node[V]) (V, bool) {
	if n == nil {
		var zero V
		return zero, false
	}
	return n.value, true
}

func (n *node[V]) tall() int {
	if n == nil {
		return 0
	}
	return n.height
}

func (n *node[V]) count() int {
	if n == nil {
		return 0
	}
	return n.size
}

// outermost is the least or the greatest node of a subtree: nil, if it has none.
func (n *node[V]) outermost(side int) *node[V] {
	for n != nil && n.under[side] != nil {
		n = n.under[side]
	}
	return n
}

// holding is a node over the same subtrees with another key and value.
func (n *node[V]) holding(key int, v V) *node[V] {
	c := *n
	c.key, c.value = key, v
	return &c
}

// with is the node with another subtree on one side: it may be higher than the other one by two.
func (n *node[V]) with(side int, under *node[V]) *node[V] {
	c := *n
	c.under[side] = under
	c.height = 1 + max(c.under[less].tall(), c.under[more].tall())
	c.size = 1 + c.under[less].count() + c.under[more].count()
	return &c
}

// flat is the subtree made flat again whose two sides differ in height by at most two.
func (n *node[V]) flat() *node[V] {
	for side := range n.under {
		high, low := n.under[side], n.under[1-side]
		if high.tall() < low.tall()+2 {
			continue
		}
		// What stands inside would stay as deep as it is: it is brought out first.
		if high.under[1-side].tall() > high.under[side].tall() {
			n = n.with(side, high.turned(1-side))
		}
		return n.turned(side)
	}
	return n
}

// turned is the subtree with its top's neighbour on that side as its top.
func (n *node[V]) turned(side int) *node[V] {
	top := n.under[side]
	return top.with(1-side, n.with(side, top.under[1-side]))
}

// dropped is what is left of a subtree without its top.
func (n *node[V]) dropped() *node[V] {
	next := n.under[more].outermost(less)
	if next == nil {
		return n.under[less]
	}
	var way path[V]
	way.down(n.under[more], next.key)
	rest := way.up(next.key, next.under[more])
	return n.holding(next.key, next.value).with(more, rest).flat()
}
