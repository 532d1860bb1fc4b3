package market_test

import (
	"fmt"
	"strings"
	"testing"

	"bourse/api"
	"bourse/market"
	. "bourse/sample"
)

// trace is what a script that can be tells.
func trace(t *testing.T, script string) string {
	t.Helper()
	told, line, at, why := market.Run(script)
	if why != api.OK || line != 0 || at != 0 {
		t.Fatalf("Run: %d %d %v, of\n%s", line, at, why, script)
	}
	return told
}

// tells holds a script's trace against what stands behind each of its lines, in lines that begin with = and a blank.
func tells(t *testing.T, transcript string) {
	t.Helper()
	var script, want strings.Builder
	n := 0
	for _, line := range strings.Split(strings.Trim(transcript, "\n"), "\n") {
		if told, is := strings.CutPrefix(strings.TrimLeft(line, "\t"), "= "); is {
			fmt.Fprintf(&want, "%d %s\n", n, told)
			continue
		}
		n++
		script.WriteString(strings.TrimLeft(line, "\t") + "\n")
	}
	sameText(t, trace(t, script.String()), want.String())
}

// sameText holds a text against another one, line by line.
func sameText(t *testing.T, got, want string) {
	t.Helper()
	if got == want {
		return
	}
	g, w := strings.SplitAfter(got, "\n"), strings.SplitAfter(want, "\n")
	for i := range max(len(g), len(w)) {
		switch {
		case i >= len(g):
			t.Fatalf("it ends ahead of %q", w[i])
		case i >= len(w):
			t.Fatalf("%q stands behind its end", g[i])
		case g[i] != w[i]:
			t.Fatalf("line %d: %q, not %q", i+1, g[i], w[i])
		}
	}
}

// refusesScript holds what Parse and Run answer to a script that can't be.
func refusesScript(t *testing.T, script string, line, at int, why api.Errno) {
	t.Helper()
	says, gotLine, gotAt, gotWhy := market.Parse(script)
	told, runLine, runAt, runWhy := market.Run(script)
	if len(says) != 0 || told != "" || gotLine != line || gotAt != at || gotWhy != why || runLine != line || runAt != at || runWhy != why {
		if len(script) > 200 {
			script = script[:200] + " .."
		}
		t.Errorf("%d %d %v and %d %d %v, not %d %d %v, of %q", gotLine, gotAt, gotWhy, runLine, runAt, runWhy, line, at, why, script)
	}
}

// parses holds the commands of a script, each written as its line, its word and the others.
func parses(t *testing.T, script string, want ...string) {
	t.Helper()
	says, line, at, why := market.Parse(script)
	var got []string
	for _, s := range says {
		got = append(got, strings.Join(append([]string{fmt.Sprint(s.Line), s.Word}, s.Args...), " "))
	}
	Same(t, "Parse", why, api.OK)
	Same(t, "line", line, 0)
	Same(t, "place", at, 0)
	SameList(t, "commands", got, want)
}

func digits(n int) string { return fmt.Sprint(n) }
