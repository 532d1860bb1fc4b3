// Package naming is what a name may look like: that of an instrument, or of an end of a session.
package naming

// Is tells whether a text is a name: 1 to longest letters from A to Z.
func Is(s string, longest int) bool {
	for _, c := range []byte(s) {
		if c < 'A' || 'Z' < c {
			return false
		}
	}
	return 1 <= len(s) && len(s) <= longest
}
