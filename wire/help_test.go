package wire_test

import (
	"encoding/binary"
	"hash/crc32"
	"slices"
	"testing"

	"bourse/api"
	"bourse/wire"
)

// The tests hold every answer against frames laid out by encoding/binary and hash/crc32, which no code of the package uses.

// mixer makes the same numbers in every run.
type mixer uint64

func (x *mixer) next() uint64 {
	*x += 0x9e3779b97f4a7c15
	n := uint64(*x)
	n = (n ^ n>>30) * 0xbf58476d1ce4e5b9
	n = (n ^ n>>27) * 0x94d049bb133111eb
	return n ^ n>>31
}

func (x *mixer) below(n int) int { return int(x.next() % uint64(n)) }

func (x *mixer) bytes(n int) []byte {
	b := make([]byte, n)
	for i := range b {
		b[i] = byte(x.next())
	}
	return b
}

func (x *mixer) frame() api.Frame {
	f := api.Frame{Kind: byte(x.next())}
	for i := range f.Words {
		f.Words[i] = x.next() >> x.below(65)
	}
	return f
}

// frames are the zero frame, one with nothing but ones, one with a single byte of its own each, and some of all widths.
func frames() []api.Frame {
	ones := api.Frame{Kind: 255}
	each := api.Frame{Kind: 0x80}
	for i := range ones.Words {
		ones.Words[i] = 1<<64 - 1
		for j := range 8 {
			each.Words[i] |= uint64(8*i+j+1) << (8 * j)
		}
	}
	l := []api.Frame{{}, ones, each, {Kind: 1, Words: [api.Words]uint64{258}}}
	for i := range api.Words {
		var f api.Frame
		f.Words[i] = 1 << 63
		l = append(l, f)
	}
	x := mixer(1)
	for range 60 {
		l = append(l, x.frame())
	}
	return l
}

// laid is a frame's bytes by the library.
func laid(f api.Frame) []byte {
	b := []byte{0x42, 0x46, f.Kind, 0}
	for _, w := range f.Words {
		b = binary.LittleEndian.AppendUint64(b, w)
	}
	return summed(b)
}

// summed puts the check sum of the first sixty bytes behind them.
func summed(b []byte) []byte {
	b = slices.Clone(b[:60])
	return binary.LittleEndian.AppendUint32(b, crc32.ChecksumIEEE(b))
}

// told is what is told of a frame's bytes.
type told struct {
	frame api.Frame
	why   api.Errno
}

// wanted is what P2.2 asks of bytes.
func wanted(b []byte) told {
	switch {
	case len(b) < 64:
		return told{why: api.ErrShort}
	case len(b) > 64:
		return told{why: api.ErrLong}
	case b[0] != 0x42 || b[1] != 0x46 || b[3] != 0:
		return told{why: api.ErrMagic}
	case binary.LittleEndian.Uint32(b[60:]) != crc32.ChecksumIEEE(b[:60]):
		return told{why: api.ErrSum}
	}
	f := api.Frame{Kind: b[2]}
	for i := range f.Words {
		f.Words[i] = binary.LittleEndian.Uint64(b[4+8*i:])
	}
	return told{frame: f}
}

// wantedAll is what P2.3 asks of bytes.
func wantedAll(b []byte) []told {
	var l []told
	for len(b) > 0 {
		n := min(64, len(b))
		l = append(l, wanted(b[:n]))
		b = b[n:]
	}
	return l
}

func all(b []byte) []told {
	var l []told
	for f, why := range wire.All(b) {
		l = append(l, told{f, why})
	}
	return l
}

// unpacked holds Unpack against what is wanted.
func unpacked(t *testing.T, b []byte) told {
	t.Helper()
	before := slices.Clone(b)
	f, why := wire.Unpack(b)
	if want := wanted(b); want != (told{f, why}) {
		t.Fatalf("Unpack of %x: wanted %v, got %v %v", b, want, f, why)
	}
	if !slices.Equal(b, before) {
		t.Fatalf("Unpack changed %x to %x", before, b)
	}
	return told{f, why}
}

// stream is bytes of frames, good and spoilt in several ways, with an end of fewer bytes than a frame has.
func stream(x *mixer, count, end int) []byte {
	var b []byte
	for range count {
		piece := laid(x.frame())
		switch x.below(6) {
		case 0:
			piece[x.below(60)] ^= 1 << x.below(8)
		case 1:
			piece[60+x.below(4)] ^= 1 << x.below(8)
		case 2:
			piece[3] = byte(1 + x.below(255))
			piece = summed(piece)
		case 3:
			piece = x.bytes(64)
		}
		b = append(b, piece...)
	}
	return append(b, x.bytes(end)...)
}
