package message

import (
	"bourse/api"
	"bourse/text"
)

// place is where a field stands in a frame: in which word, from which bit on.
func place(kind byte, tag int) (int, int) {
	word, bit := 0, 0
	switch tag {
	case tagID, tagEngine:
		word = 1
	case tagTarget, tagOther:
		word = 2
	case tagMember:
		word = 3
	case tagSide:
		word, bit = 3, 32
	case tagType:
		word, bit = 3, 40
	case tagReason:
		word, bit = 3, 48
	case tagPrice:
		word = 4
	case tagCode:
		word, bit = 4, 32
	case tagQty:
		word = 5
	case tagPeak:
		word = 6
	}
	// An input has no Seq, which is an event's first word: the others stand one ahead.
	if isInput(kind) {
		word--
	}
	return word, bit
}

// frame puts each field in its place.
func (s saying) frame() api.Frame {
	f := api.Frame{Kind: s.kind}
	for _, tag := range tagsOf(s.kind) {
		word, bit := place(s.kind, tag)
		f.Words[word] |= s.fields[tag] << bit
	}
	return f
}

// readFrame takes each field from its place, whatever stands beside it.
func readFrame(f api.Frame) saying {
	s := saying{kind: f.Kind, fields: map[int]uint64{}}
	for _, tag := range tagsOf(f.Kind) {
		word, bit := place(f.Kind, tag)
		s.fields[tag] = f.Words[word] >> bit & bound(tag)
	}
	return s
}

// The kinds of lines.
const (
	lineNew     = "D"
	lineCancel  = "F"
	lineReplace = "G"
	lineEngine  = "UE"
	lineEvent   = "8"
)

// lineKind is the kind of the line for that of a frame.
func lineKind(kind byte) string {
	switch kind {
	case api.New:
		return lineNew
	case api.Cancel:
		return lineCancel
	case api.Replace:
		return lineReplace
	case kindEngine:
		return lineEngine
	}
	return lineEvent
}

// inputKind is the kind of the frame for that of an input's line.
func inputKind(line string) (byte, bool) {
	for kind := byte(api.New); isInput(kind); kind++ {
		if lineKind(kind) == line {
			return kind, true
		}
	}
	return 0, false
}

// eventKind is the kind of the frame for an event's line, which its second field tells.
func eventKind(line string, l []api.Tag) (byte, bool) {
	if line != lineEvent || len(l) < 2 {
		return 0, false
	}
	n, why := text.Number(l[1:2], tagEvent)
	if why != api.OK || n < api.EvAck || n > api.EvRefresh {
		return 0, false
	}
	return kindEvent + byte(n), true
}

// line writes each field in its order.
func (s saying) line() ([]byte, api.Errno) {
	var l []api.Tag
	for _, tag := range tagsOf(s.kind) {
		l = append(l, api.Tag{Tag: tag, Value: text.Decimal(s.fields[tag])})
		if tag == tagSeq {
			l = append(l, api.Tag{Tag: tagEvent, Value: text.Decimal(uint64(s.kind - kindEvent))})
		}
	}
	return text.Encode(lineKind(s.kind), l)
}

// readTags takes a kind's fields from those of a line, wherever they stand; one that is missing, or no number, counts as 0.
func readTags(kind byte, l []api.Tag) saying {
	s := saying{kind: kind, fields: map[int]uint64{}}
	for _, tag := range tagsOf(kind) {
		s.fields[tag], _ = text.Number(l, tag)
	}
	return s
}
