package journal

import (
	"bourse/api"
	"bourse/message"
	"bourse/snapshot"
	"bourse/wire"
)

// Do lays a batch of inputs down and does them: what the book tells.
func (j *Journal) Do(l []api.Input) ([]api.Event, api.Errno) {
	if len(l) > api.MaxBatch {
		return nil, api.ErrLong
	}
	frames, why := laid(l)
	switch {
	case why != api.OK:
		return nil, why
	case len(l) == 0:
		return nil, api.OK
	case !j.isMade():
		return nil, api.ErrBook
	case len(j.log)+len(frames)+api.FrameSize > api.MaxLog:
		return nil, api.ErrRoom
	}
	j.log = append(j.log, frames...)
	told := j.doAll(l)
	j.log = append(j.log, framed(kindSeal, uint64(len(l)), j.count, uint64(wire.Sum(frames)), j.seq)...)
	return told, api.OK
}

// laid is the frames of inputs, or why the first one that can't be laid down can't.
func laid(l []api.Input) ([]byte, api.Errno) {
	var frames []byte
	for _, i := range l {
		frame, why := message.Pack(i)
		if why != api.OK {
			return nil, why
		}
		if i.Kind == api.ToEngine && !isEngine(i.Engine) {
			return nil, api.ErrEngine
		}
		raw := wire.Pack(frame)
		frames = append(frames, raw[:]...)
	}
	return frames, api.OK
}

func isEngine(engine int) bool {
	switch engine {
	case api.Tree, api.Ladder, api.List:
		return true
	}
	return false
}

// doAll does inputs that were laid down: what the book tells of all of them.
func (j *Journal) doAll(l []api.Input) []api.Event {
	var told, more []api.Event
	for _, i := range l {
		j.book, j.engine, more = done(j.book, j.engine, i)
		told = append(told, more...)
	}
	if n := len(told); n > 0 {
		j.seq = told[n-1].Seq
	}
	j.count += uint64(len(l))
	return told
}

// done does an input on a book in an engine: the book and its engine behind it, and what is told. No error comes of a swap: what names no engine was not laid down.
func done(book api.Engine, engine int, i api.Input) (api.Engine, int, []api.Event) {
	if i.Kind == api.ToBook {
		return book, engine, book.Do(i.Command)
	}
	book, _ = snapshot.Swap(book, i.Engine)
	return book, i.Engine, nil
}
