package lowest_test

import (
	"encoding/binary"
	"math"
	"slices"
	"testing"

	"bourse/lowest"
	. "bourse/sample"
)

func TestPutAndNumber(t *testing.T) {
	numbers := []uint64{0, 1, 255, 256, 258, 1 << 31, 1<<32 - 1, 1 << 32, 1 << 63, math.MaxUint64, 0x0102030405060708}
	for mix := Mixer(1); len(numbers) < 200; {
		numbers = append(numbers, mix.Next())
	}
	for _, n := range numbers {
		want := binary.LittleEndian.AppendUint64(nil, n)
		for width := range 9 {
			// What stands about it is left as it is.
			b := slices.Repeat([]byte{0xaa}, 12)
			lowest.Put(b[2:2+width], n)
			SameList(t, "Put", b, slices.Concat([]byte{0xaa, 0xaa}, want[:width], slices.Repeat([]byte{0xaa}, 10-width)))
			low := n
			if width < 8 {
				low &= 1<<(8*width) - 1
			}
			Same(t, "Number", lowest.Number(b[2:2+width]), low)
		}
	}
}
