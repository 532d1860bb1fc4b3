// Package lowest is how a number stands in bytes wherever the program writes one: that of least weight first.
package lowest

// Put fills b with as many bytes of n.
func Put(b []byte, n uint64) {
	for i := range b {
		b[i] = byte(n)
		n >>= 8
	}
}

// Number is the one whose bytes b are; there may be eight of them.
func Number(b []byte) uint64 {
	var n uint64
	for i, c := range b {
		n |= uint64(c) << (8 * i)
	}
	return n
}
