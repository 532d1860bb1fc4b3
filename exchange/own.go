package exchange

// own is a member's own number for an order or a stop order.
type own struct {
	member uint32
	ref    uint64
}

// register is whose the orders of a floor are, or its stop orders: also those that are gone, as nobody's number comes twice.
type register struct {
	owners  map[uint64]own
	numbers map[own]uint64
}

func newRegister() register {
	return register{owners: map[uint64]own{}, numbers: map[own]uint64{}}
}

// enter lets what the floor has under a number be somebody's.
func (r register) enter(number uint64, o own) {
	r.owners[number] = o
	r.numbers[o] = number
}

func (r register) has(o own) bool {
	_, there := r.numbers[o]
	return there
}

// isUsed tells whether an order or a stop order was ever taken under a member's own number.
func (i *instrument) isUsed(o own) bool { return i.orders.has(o) || i.stops.has(o) }
