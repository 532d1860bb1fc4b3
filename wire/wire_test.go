package wire_test

import (
	"hash/crc32"
	"slices"
	"testing"

	"bourse/api"
	"bourse/wire"
)

func TestP2_1Sum(t *testing.T) {
	for _, x := range []struct {
		text string
		want uint32
	}{{"123456789", 0xcbf43926}, {"", 0}, {"a", 0xe8b7be43}, {"\x00", 0xd202ef8d}} {
		if got := wire.Sum([]byte(x.text)); got != x.want {
			t.Errorf("Sum(%q): %x", x.text, got)
		}
	}
	if wire.Sum(nil) != 0 {
		t.Error("Sum of nil")
	}
	x := mixer(2)
	for c := range 256 {
		for _, b := range [][]byte{{byte(c)}, {0, byte(c)}, {byte(c), 255}} {
			if wire.Sum(b) != crc32.ChecksumIEEE(b) {
				t.Fatalf("Sum(%x): %x", b, wire.Sum(b))
			}
		}
	}
	for n := range 300 {
		b := x.bytes(n)
		before := slices.Clone(b)
		if wire.Sum(b) != crc32.ChecksumIEEE(before) || !slices.Equal(b, before) {
			t.Fatalf("Sum(%x): %x", before, wire.Sum(before))
		}
	}
}

func TestP2_1Pack(t *testing.T) {
	for _, f := range frames() {
		if b := wire.Pack(f); string(b[:]) != string(laid(f)) {
			t.Fatalf("Pack(%v): %x", f, b)
		}
	}
	for kind := range 256 {
		f := api.Frame{Kind: byte(kind)}
		if b := wire.Pack(f); string(b[:]) != string(laid(f)) {
			t.Fatalf("Pack(%v): %x", f, b)
		}
	}
	b := wire.Pack(api.Frame{Kind: 1, Words: [api.Words]uint64{258}})
	if string(b[:12]) != "\x42\x46\x01\x00\x02\x01\x00\x00\x00\x00\x00\x00" {
		t.Errorf("%x", b)
	}
}

func TestP2_2Lengths(t *testing.T) {
	good := laid(api.Frame{Kind: 7, Words: [api.Words]uint64{1, 2, 3, 4, 5, 6, 7}})
	x := mixer(3)
	for n := range 200 {
		unpacked(t, slices.Concat(good, good, good, good)[:n])
		unpacked(t, make([]byte, n))
		unpacked(t, x.bytes(n))
	}
	unpacked(t, nil)
	if _, why := wire.Unpack(good[:64:64]); why != api.OK {
		t.Error("a frame's bytes:", why)
	}
}

func TestP2_2Spoilt(t *testing.T) {
	for _, f := range frames() {
		good := laid(f)
		if unpacked(t, good) != (told{frame: f}) {
			t.Fatal("a frame's bytes:", f)
		}
		for i := range good {
			for bit := range 8 {
				b := slices.Clone(good)
				b[i] ^= 1 << bit
				if unpacked(t, b).why == api.OK {
					t.Fatalf("turned bit %d of byte %d", bit, i)
				}
				// With the sum made to fit, the head alone decides.
				unpacked(t, summed(b))
			}
		}
	}
}

// The head is looked at ahead of the sum, whatever both are.
func TestP2_2Heads(t *testing.T) {
	good := laid(api.Frame{Kind: 9, Words: [api.Words]uint64{9, 8, 7}})
	for _, i := range []int{0, 1, 2, 3} {
		for c := range 256 {
			b := slices.Clone(good)
			b[i] = byte(c)
			unpacked(t, b)
			unpacked(t, summed(b))
			b[63]++
			unpacked(t, b)
		}
	}
	swapped := slices.Clone(good)
	swapped[0], swapped[1] = swapped[1], swapped[0]
	if unpacked(t, summed(swapped)).why != api.ErrMagic {
		t.Error("46 42")
	}
	both := slices.Clone(good)
	both[0], both[1], both[3] = 0x46, 0x46, 1
	if unpacked(t, summed(both)).why != api.ErrMagic {
		t.Error("46 46 .. 01")
	}
}

func TestP2_5OneForm(t *testing.T) {
	for _, f := range frames() {
		b := wire.Pack(f)
		if got, why := wire.Unpack(b[:]); got != f || why != api.OK {
			t.Fatal(f, got, why)
		}
	}
	x := mixer(4)
	read := 0
	for range 4000 {
		b := laid(x.frame())
		for range x.below(3) {
			b[x.below(64)] = byte(x.next())
		}
		if x.below(2) == 0 {
			b = summed(b)
		}
		f, why := wire.Unpack(b)
		if why != api.OK {
			continue
		}
		read++
		if again := wire.Pack(f); string(again[:]) != string(b) {
			t.Fatalf("%x was read, and written as %x", b, again)
		}
	}
	if read < 1000 {
		t.Error("too few could be read:", read)
	}
}

// turn turns the bits of a burst that begins at a bit, the bits of each byte counted from the lowest up.
func turn(b []byte, at int, burst uint32) {
	for i := range 32 {
		if burst>>i&1 == 1 {
			b[(at+i)/8] ^= 1 << ((at + i) % 8)
		}
	}
}

func TestP2_6Bursts(t *testing.T) {
	x := mixer(5)
	good := laid(x.frame())
	refused := func(at int, burst uint32) {
		t.Helper()
		b := slices.Clone(good)
		turn(b, at, burst)
		if f, why := wire.Unpack(b); why == api.OK || f != (api.Frame{}) {
			t.Fatalf("burst %x at %d: %v %v", burst, at, f, why)
		}
	}
	for at := range 512 {
		room := min(32, 512-at)
		for width := 1; width <= room; width++ {
			whole := uint32(1)<<width - 1
			refused(at, whole)
			refused(at, 1|1<<(width-1))
			refused(at, uint32(x.next())&whole|1)
		}
		for short := range uint32(1 << min(8, room)) {
			refused(at, short|1)
		}
	}
}
