package message

import "bourse/api"

// The kinds of frames beside those of commands, which are the commands' own; an event's own kind stands above kindEvent.
const (
	kindEngine = 4
	kindEvent  = 64
)

// The tags of fields.
const (
	tagMember = 1
	tagID     = 11
	tagSeq    = 34
	tagOther  = 37
	tagQty    = 38
	tagType   = 40
	tagTarget = 41
	tagPrice  = 44
	tagSide   = 54
	tagCode   = 103
	tagEvent  = 150 // of a line alone: which event it is
	tagPeak   = 210
	tagReason = 378
	tagEngine = 9001
)

// saying is what an input or an event says, in whatever dress: the kind of its frame, and its fields by their tags.
type saying struct {
	kind   byte
	fields map[int]uint64
}

func isInput(kind byte) bool { return kind >= api.New && kind <= kindEngine }

func isEvent(kind byte) bool {
	return kind >= kindEvent+api.EvAck && kind <= kindEvent+api.EvRefresh
}

// tagsOf are the tags of a kind's fields, in their order.
func tagsOf(kind byte) []int {
	switch kind {
	case api.New:
		return []int{tagID, tagMember, tagSide, tagType, tagPrice, tagQty, tagPeak}
	case api.Cancel:
		return []int{tagTarget}
	case api.Replace:
		return []int{tagTarget, tagID, tagPrice, tagQty, tagPeak}
	case kindEngine:
		return []int{tagEngine}
	case kindEvent + api.EvAck:
		return []int{tagSeq, tagID, tagMember, tagSide, tagType, tagPrice, tagQty, tagPeak}
	case kindEvent + api.EvReject:
		return []int{tagSeq, tagID, tagTarget, tagCode}
	case kindEvent + api.EvTrade:
		return []int{tagSeq, tagID, tagOther, tagSide, tagPrice, tagQty}
	case kindEvent + api.EvCancel:
		return []int{tagSeq, tagID, tagQty, tagReason}
	case kindEvent + api.EvRefresh:
		return []int{tagSeq, tagID, tagPrice, tagQty}
	}
	return nil
}

// bound is the greatest number that a field may have.
func bound(tag int) uint64 {
	switch tag {
	case tagSide, tagType, tagReason, tagEngine:
		return 1<<8 - 1
	case tagMember, tagPrice, tagCode:
		return 1<<32 - 1
	}
	return 1<<64 - 1
}

// pick takes of all fields those of a kind; false: one of them is beyond its bound. (One below 0 is, too: its number is wrapped.)
func pick(kind byte, all map[int]uint64) (saying, bool) {
	s := saying{kind: kind, fields: map[int]uint64{}}
	for _, tag := range tagsOf(kind) {
		if all[tag] > bound(tag) {
			return saying{}, false
		}
		s.fields[tag] = all[tag]
	}
	return s, true
}

// sayInput is what an input says, if it can be told.
func sayInput(i api.Input) (saying, api.Errno) {
	c := i.Command
	var kind byte
	switch {
	case i.Kind == api.ToEngine:
		kind = kindEngine
	case i.Kind == api.ToBook && c.Kind >= api.New && c.Kind <= api.Replace:
		kind = byte(c.Kind)
	default:
		return saying{}, api.ErrMessage
	}
	s, ok := pick(kind, map[int]uint64{
		tagID:     c.ID,
		tagTarget: c.Target,
		tagMember: uint64(c.Member),
		tagSide:   uint64(c.Side),
		tagType:   uint64(c.Type),
		tagPrice:  uint64(c.Price),
		tagQty:    c.Qty,
		tagPeak:   c.Peak,
		tagEngine: uint64(i.Engine),
	})
	// What the picked fields do not bring back was there beside them.
	if !ok || s.input() != i {
		return saying{}, api.ErrField
	}
	return s, api.OK
}

// input is the one that says it.
func (s saying) input() api.Input {
	if s.kind == kindEngine {
		return api.Input{Kind: api.ToEngine, Engine: int(s.fields[tagEngine])}
	}
	return api.Input{Kind: api.ToBook, Command: api.Command{
		Kind:   int(s.kind),
		ID:     s.fields[tagID],
		Target: s.fields[tagTarget],
		Member: uint32(s.fields[tagMember]),
		Side:   int(s.fields[tagSide]),
		Type:   int(s.fields[tagType]),
		Price:  int(s.fields[tagPrice]),
		Qty:    s.fields[tagQty],
		Peak:   s.fields[tagPeak],
	}}
}

// sayEvent is what an event says, if it can be told.
func sayEvent(e api.Event) (saying, api.Errno) {
	if e.Kind < api.EvAck || e.Kind > api.EvRefresh {
		return saying{}, api.ErrMessage
	}
	s, ok := pick(kindEvent+byte(e.Kind), map[int]uint64{
		tagSeq:    e.Seq,
		tagID:     e.ID,
		tagOther:  e.Other,
		tagTarget: e.Target,
		tagMember: uint64(e.Member),
		tagSide:   uint64(e.Side),
		tagType:   uint64(e.Type),
		tagPrice:  uint64(e.Price),
		tagQty:    e.Qty,
		tagPeak:   e.Peak,
		tagReason: uint64(e.Reason),
		tagCode:   uint64(e.Code),
	})
	if !ok || s.event() != e {
		return saying{}, api.ErrField
	}
	return s, api.OK
}

// event is the one that says it.
func (s saying) event() api.Event {
	return api.Event{
		Seq:    s.fields[tagSeq],
		Kind:   int(s.kind - kindEvent),
		ID:     s.fields[tagID],
		Other:  s.fields[tagOther],
		Target: s.fields[tagTarget],
		Member: uint32(s.fields[tagMember]),
		Side:   int(s.fields[tagSide]),
		Type:   int(s.fields[tagType]),
		Price:  int(s.fields[tagPrice]),
		Qty:    s.fields[tagQty],
		Peak:   s.fields[tagPeak],
		Reason: int(s.fields[tagReason]),
		Code:   api.Errno(s.fields[tagCode]),
	}
}
