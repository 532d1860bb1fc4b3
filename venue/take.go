package venue

import (
	"bytes"
	"slices"

	"bourse/api"
	"bourse/message"
	"bourse/snapshot"
	"bourse/wire"
)

// whole is the bytes of all frames that are whole when these bytes have come; what stands behind them waits.
func (v *Venue) whole(b []byte) []byte {
	all := slices.Concat(v.waits, b)
	end := len(all) - len(all)%api.FrameSize
	// A copy: a piece of all would hold the memory of frames that were read.
	v.waits = bytes.Clone(all[end:])
	return all[:end]
}

// take reads a frame, unless something is wrong with it: what is told.
func (v *Venue) take(frame api.Frame, why api.Errno) []api.Event {
	if why != api.OK {
		return v.reject(why)
	}
	i, why := message.Unpack(frame)
	if why != api.OK {
		return v.reject(why)
	}
	if i.Kind == api.ToEngine {
		return v.swap(i.Engine)
	}
	return v.book.Do(i.Command)
}

// swap lets the book go on in an engine, if there is such a one.
func (v *Venue) swap(engine int) []api.Event {
	book, why := snapshot.Swap(v.book, engine)
	if why != api.OK {
		return v.reject(why)
	}
	v.book, v.engine = book, engine
	return nil
}

// reject tells of what is nothing for the book. The book numbers it: what is no command at all it refuses by an EvReject, and changes nothing but its Seq.
func (v *Venue) reject(why api.Errno) []api.Event {
	told := v.book.Do(api.Command{})
	for i := range told {
		told[i].Code = why
	}
	return told
}

// written is the frames of events. (Whatever a book tells has one.)
func written(told []api.Event) []byte {
	var b []byte
	for _, e := range told {
		frame, _ := message.PackEvent(e)
		raw := wire.Pack(frame)
		b = append(b, raw[:]...)
	}
	return b
}
