// Package fcs is layer 1: the check of a frame's bytes. See shared/doc/01-fcs.md.
package fcs

const (
	first = 0xFF // the register ahead of all bytes
	good  = 0xCF // the register behind bytes and their check
)

// half is what becomes of the register's low four bits when it is moved down four times.
var half = [16]byte{
	0x00, 0x1C, 0x38, 0x24, 0x70, 0x6C, 0x48, 0x54,
	0xE0, 0xFC, 0xD8, 0xC4, 0x90, 0x8C, 0xA8, 0xB4,
}

// Step: P1.1.
func Step(register, b byte) byte {
	return moveFour(moveFour(register ^ b))
}

// Sum: P1.2.
func Sum(s string) byte { return 0xFF - takeAll(s) }

// Good: P1.3.
func Good(s string) bool { return takeAll(s) == good }

// Mend: P1.4.
func Mend(s string, bit int) byte {
	if bit < 0 || bit/8 >= len(s) {
		return 0
	}
	// The check is linear: what the bit does is what it does among bytes that are 0, from a register that is 0.
	r := Step(0, 1<<(bit%8))
	for range len(s) - 1 - bit/8 {
		r = Step(r, 0)
	}
	return r
}

// moveFour moves the register down four times. The low half alone tells what is turned: no bit that is turned meanwhile (5 to 7) falls out by then.
func moveFour(register byte) byte {
	return register>>4 ^ half[register&0x0F]
}

// takeAll is the register when the bytes of s have been taken.
func takeAll(s string) byte {
	r := byte(first)
	for i := range len(s) {
		r = Step(r, s[i])
	}
	return r
}
