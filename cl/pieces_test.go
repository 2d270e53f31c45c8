package cl

import "testing"

// What is handed out to range over may be left at each piece, and gone over again.
func TestPiecesMayBeLeft(t *testing.T) {
	const all = 4
	handed := pieces("abcdefg", 2)
	for stop := 1; stop <= all; stop++ {
		n := 0
		for range handed {
			n++
			if n == stop {
				break
			}
		}
		if n != stop {
			t.Fatalf("%d pieces, not %d", n, stop)
		}
	}
	var last string
	n := 0
	for p := range handed {
		last = p
		n++
	}
	if n != all || last != "\x41g" {
		t.Fatalf("gone over again: %d pieces, the last one %q", n, last)
	}
}
