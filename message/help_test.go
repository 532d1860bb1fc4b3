package message_test

import (
	"fmt"
	"math/big"
	"reflect"
	"regexp"
	"strings"
	"testing"

	"bourse/api"
	"bourse/message"
	"bourse/text"
)

// The tests hold every answer against the chapter's tables, written down here a second time and read by reflect, big and fmt.

// mixer makes the same numbers in every run.
type mixer uint64

func (x *mixer) next() uint64 {
	*x += 0x9e3779b97f4a7c15
	n := uint64(*x)
	n = (n ^ n>>30) * 0xbf58476d1ce4e5b9
	n = (n ^ n>>27) * 0x94d049bb133111eb
	return n ^ n>>31
}

func (x *mixer) below(n int) int { return int(x.next() % uint64(n)) }

// row is one of what can be said: its frame's kind, its line's, its fields by their names.
type row struct {
	frame  byte
	line   string
	fields string
}

func (r row) names() []string { return strings.Split(r.fields, " ") }

func (r row) event() bool { return r.frame > 64 }

var rows = []row{
	{1, "D", "ID Member Side Type Price Qty Peak"},
	{2, "F", "Target"},
	{3, "G", "Target ID Price Qty Peak"},
	{4, "UE", "Engine"},
	{65, "8", "Seq ID Member Side Type Price Qty Peak"},
	{66, "8", "Seq ID Target Code"},
	{67, "8", "Seq ID Other Side Price Qty"},
	{68, "8", "Seq ID Qty Reason"},
	{69, "8", "Seq ID Price Qty"},
}

var tags = map[string]int{"ID": 11, "Target": 41, "Other": 37, "Member": 1, "Side": 54, "Type": 40, "Price": 44, "Qty": 38, "Peak": 210, "Seq": 34, "Code": 103, "Reason": 378, "Engine": 9001}

var bits = map[string]uint{"ID": 64, "Target": 64, "Other": 64, "Seq": 64, "Qty": 64, "Peak": 64, "Member": 32, "Price": 32, "Code": 32, "Side": 8, "Type": 8, "Reason": 8, "Engine": 8}

var inputWords = [7]string{"ID<<0 Engine<<0", "Target<<0", "Member<<0 Side<<32 Type<<40", "Price<<0", "Qty<<0", "Peak<<0", ""}

var eventWords = [7]string{"Seq<<0", "ID<<0", "Other<<0 Target<<0", "Member<<0 Side<<32 Type<<40 Reason<<48", "Price<<0 Code<<32", "Qty<<0", "Peak<<0"}

// thing is an input or an event, whose fields are reached by their names.
type thing struct {
	input api.Input
	event api.Event
}

// at is a field of it: of an input the Command's, or else its own.
func (t *thing) at(r row, name string) reflect.Value {
	switch {
	case r.event():
		return reflect.ValueOf(&t.event).Elem().FieldByName(name)
	case name == "Engine":
		return reflect.ValueOf(&t.input).Elem().FieldByName(name)
	}
	return reflect.ValueOf(&t.input.Command).Elem().FieldByName(name)
}

// put sets a field to a number, if there is room for it in its type.
func (t *thing) put(r row, name string, n *big.Int) bool {
	v := t.at(r, name)
	switch {
	case v.CanUint() && n.IsUint64() && !v.OverflowUint(n.Uint64()):
		v.SetUint(n.Uint64())
	case v.CanInt() && n.IsInt64():
		v.SetInt(n.Int64())
	default:
		return false
	}
	return true
}

func (t *thing) number(r row, name string) *big.Int {
	v := t.at(r, name)
	if v.CanUint() {
		return new(big.Int).SetUint64(v.Uint())
	}
	return big.NewInt(v.Int())
}

// bare says what a row is about, all fields 0.
func (r row) bare() thing {
	switch {
	case r.event():
		return thing{event: api.Event{Kind: int(r.frame) - 64}}
	case r.frame == 4:
		return thing{input: api.Input{Kind: 2}}
	}
	return thing{input: api.Input{Kind: 1, Command: api.Command{Kind: int(r.frame)}}}
}

func bound(name string) *big.Int {
	one := big.NewInt(1)
	return new(big.Int).Sub(new(big.Int).Lsh(one, bits[name]), one)
}

// any makes one that can be told.
func (r row) any(x *mixer) thing {
	t := r.bare()
	for _, name := range r.names() {
		n := bound(name)
		switch x.below(4) {
		case 0:
			n = big.NewInt(int64(x.below(20)))
		case 1:
			n.Sub(n, big.NewInt(int64(x.below(2))))
		default:
			n.And(n, new(big.Int).SetUint64(x.next()))
		}
		t.put(r, name, n)
	}
	return t
}

// framed is the frame that the chapter's table asks for.
func (r row) framed(t thing) api.Frame {
	words := inputWords
	if r.event() {
		words = eventWords
	}
	f := api.Frame{Kind: r.frame}
	for _, name := range r.names() {
		for i := range words {
			for _, part := range strings.Fields(words[i]) {
				named, shift, _ := strings.Cut(part, "<<")
				if named != name {
					continue
				}
				var by uint
				fmt.Sscan(shift, &by)
				f.Words[i] += new(big.Int).Lsh(t.number(r, name), by).Uint64()
			}
		}
	}
	return f
}

// lined is the line that the chapter's table asks for.
func (r row) lined(t thing) string {
	var l []string
	for _, name := range r.names() {
		l = append(l, fmt.Sprintf("%d=%v", tags[name], t.number(r, name)))
		if name == "Seq" {
			l = append(l, fmt.Sprintf("150=%d", r.frame-64))
		}
	}
	return laid(r.line, l...)
}

// laid is a line of fields that stand as tag=value.
func laid(kind string, fields ...string) string {
	body := "35=" + kind + "\x01"
	for _, f := range fields {
		body += f + "\x01"
	}
	s := fmt.Sprintf("8=BRS.1\x019=%d\x01%s", len(body), body)
	sum := 0
	for _, c := range []byte(s) {
		sum += int(c)
	}
	return s + fmt.Sprintf("10=%03d\x01", sum%256)
}

// cut are a line's fields behind its kind, as tag=value.
func cut(line string) []string {
	all := strings.Split(line, "\x01")
	return all[3 : len(all)-2]
}

// told is what the four calls of one kind of things tell: of its frame and its line the error must be one.
func told(t *testing.T, r row, x thing) (api.Frame, string, api.Errno) {
	t.Helper()
	var f api.Frame
	var b []byte
	var why, also api.Errno
	if r.event() {
		f, why = message.PackEvent(x.event)
		b, also = message.EventLine(x.event)
	} else {
		f, why = message.Pack(x.input)
		b, also = message.Line(x.input)
	}
	if why != also {
		t.Errorf("%+v: the frame %v, the line %v", x, why, also)
	}
	if why != api.OK && (f != api.Frame{} || len(b) != 0) {
		t.Errorf("%+v: %v beside %v %q", x, why, f, b)
	}
	return f, string(b), why
}

// unpacked reads a frame as an input or as an event.
func unpacked(t *testing.T, event bool, f api.Frame) (thing, api.Errno) {
	t.Helper()
	var x thing
	var why api.Errno
	if event {
		x.event, why = message.UnpackEvent(f)
	} else {
		x.input, why = message.Unpack(f)
	}
	if why != api.OK && x != (thing{}) {
		t.Errorf("%v: %v beside %+v", f, why, x)
	}
	return x, why
}

// read reads a line as an input or as an event, and looks that its bytes and those behind them stay as they were.
func read(t *testing.T, event bool, s string) (thing, int, api.Errno) {
	t.Helper()
	room := []byte(s + "spare room")
	b := room[:len(s)]
	var x thing
	var n int
	var why api.Errno
	if event {
		x.event, n, why = message.ReadEvent(b)
	} else {
		x.input, n, why = message.ReadLine(b)
	}
	if string(room) != s+"spare room" {
		t.Errorf("%q was changed", s)
	}
	if why != api.OK && x != (thing{}) {
		t.Errorf("%q: %v beside %+v", s, why, x)
	}
	return x, n, why
}

var whole = regexp.MustCompile(`\A(0|[1-9][0-9]*)\z`)

// wantedRow is the row that a line speaks of, by its kind (and an event's second field).
func wantedRow(event bool, kind string, fields []api.Tag) (row, bool) {
	for _, r := range rows {
		if r.event() != event || r.line != kind {
			continue
		}
		if event && (len(fields) < 2 || fields[1] != api.Tag{Tag: 150, Value: fmt.Sprint(r.frame - 64)}) {
			continue
		}
		return r, true
	}
	return row{}, false
}

// wantedLine is what P4.3 asks.
func wantedLine(event bool, s string) (thing, int, api.Errno) {
	kind, fields, n, why := text.Decode([]byte(s))
	if why != api.OK {
		return thing{}, n, why
	}
	r, ok := wantedRow(event, kind, fields)
	if !ok {
		return thing{}, 0, api.ErrMessage
	}
	names := r.names()
	if event {
		names = append([]string{"Seq", ""}, names[1:]...)
	}
	if len(fields) != len(names) {
		return thing{}, 0, api.ErrField
	}
	x := r.bare()
	for i, name := range names {
		if name == "" {
			continue
		}
		v, ok := new(big.Int).SetString(fields[i].Value, 10)
		if fields[i].Tag != tags[name] || !ok || !whole.MatchString(fields[i].Value) || v.Cmp(bound(name)) > 0 {
			return thing{}, 0, api.ErrField
		}
		x.put(r, name, v)
	}
	return x, n, api.OK
}

// holdLine holds both readers of a line against what is asked.
func holdLine(t *testing.T, s string) {
	t.Helper()
	for _, event := range []bool{false, true} {
		want, at, why := wantedLine(event, s)
		got, n, e := read(t, event, s)
		if got != want || n != at || e != why {
			t.Errorf("%q (event: %v): wanted %+v %d %v, got %+v %d %v", s, event, want, at, why, got, n, e)
		}
	}
}

// wantedFrame is what P4.2 asks.
func wantedFrame(event bool, f api.Frame) (thing, api.Errno) {
	for _, r := range rows {
		if r.event() != event || r.frame != f.Kind {
			continue
		}
		words := inputWords
		if event {
			words = eventWords
		}
		x := r.bare()
		for i, parts := range words {
			for _, name := range r.names() {
				var by uint
				at := strings.Index(" "+parts, " "+name+"<<")
				if at < 0 {
					continue
				}
				fmt.Sscan(parts[at+len(name)+2:], &by)
				n := new(big.Int).Rsh(new(big.Int).SetUint64(f.Words[i]), by)
				x.put(r, name, n.And(n, bound(name)))
			}
		}
		if r.framed(x) != f {
			return thing{}, api.ErrField
		}
		return x, api.OK
	}
	return thing{}, api.ErrMessage
}

// holdFrame holds both readers of a frame against what is asked.
func holdFrame(t *testing.T, f api.Frame) {
	t.Helper()
	for _, event := range []bool{false, true} {
		want, why := wantedFrame(event, f)
		got, e := unpacked(t, event, f)
		if got != want || e != why {
			t.Errorf("%v (event: %v): wanted %+v %v, got %+v %v", f, event, want, why, got, e)
		}
	}
}
