package naming_test

import (
	"strings"
	"testing"

	"bourse/naming"
	. "bourse/sample"
)

// What chapters 23, 26 and 27 ask of a name; at every byte that there is.
func TestP23_1Names(t *testing.T) {
	for c := range 256 {
		isLetter := strings.ContainsRune("ABCDEFGHIJKLMNOPQRSTUVWXYZ", rune(c)) && c < 128
		b := string([]byte{byte(c)})
		for _, s := range []string{b, "A" + b, b + "Z", "AB" + b + "C"} {
			Same(t, "Is "+s, naming.Is(s, 8), isLetter)
		}
	}
	for n := range 20 {
		for _, longest := range []int{-1, 0, 1, 8, 16} {
			Same(t, "Is", naming.Is(strings.Repeat("N", n), longest), n > 0 && n <= longest)
		}
	}
}
