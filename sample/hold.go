package sample

import (
	"bytes"
	"slices"

	"bourse/api"
)

// Test is what ends when something is wrong: a *testing.T.
type Test interface {
	Helper()
	Fatalf(form string, with ...any)
}

// Same ends a test where two things are not the same.
func Same[T comparable](t Test, what string, got, want T) {
	t.Helper()
	if got != want {
		t.Fatalf("%s: got %+v, wanted %+v", what, got, want)
	}
}

// SameList ends a test where two lists are not the same.
func SameList[T comparable](t Test, what string, got, want []T) {
	t.Helper()
	if !slices.Equal(got, want) {
		t.Fatalf("%s: got %+v, wanted %+v", what, got, want)
	}
}

// SameBytes ends a test where bytes are not the same.
func SameBytes(t Test, what string, got, want []byte) {
	t.Helper()
	if bytes.Equal(got, want) {
		return
	}
	at := 0
	for at < min(len(got), len(want)) && got[at] == want[at] {
		at++
	}
	t.Fatalf("%s: got %d bytes, wanted %d: they differ from byte %d on", what, len(got), len(want), at)
}

// Keeps ends a test where an engine does not keep just that book.
func Keeps(t Test, e api.Engine, want api.Book) {
	t.Helper()
	if x := e.Book(); !SameBook(x, want) {
		t.Fatalf("Book: got %+v, wanted %+v", x, want)
	}
}

// Tells does a command that must tell these events, numbered from the engine's Seq on.
func Tells(t Test, e api.Engine, c api.Command, want ...api.Event) {
	t.Helper()
	seq := e.Book().Seq
	SameList(t, "Do", e.Do(c), Numbered(seq, want...))
	Same(t, "Seq", e.Book().Seq, seq+uint64(len(want)))
}

// Refuses does a command that must be refused, and change nothing but Seq.
func Refuses(t Test, e api.Engine, c api.Command, why api.Errno) {
	t.Helper()
	x := e.Book()
	x.Seq++
	Tells(t, e, c, Rejected(c, why))
	Keeps(t, e, x)
}

// Alike ends a test where two engines answer differently to anything that can be asked.
func Alike(t Test, a, b api.Engine) {
	t.Helper()
	if call := Differ(a, b); call != "" {
		t.Fatalf("%s is answered differently: by %T, which keeps %+v, and by %T, which keeps %+v", call, a, a.Book(), b, b.Book())
	}
}

// Spoil writes over a list and its spare room, so that whatever shares memory with it is seen.
func Spoil[T any](l []T, with T) {
	l = l[:cap(l)]
	for i := range l {
		l[i] = with
	}
}
