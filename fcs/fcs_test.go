package fcs_test

import (
	"math"
	"strings"
	"testing"

	"partyline/fcs"
)

// plainStep takes a byte bit by bit, as the chapter's words say it.
func plainStep(register, b byte) byte {
	register ^= b
	for range 8 {
		fell := register & 1
		register >>= 1
		if fell == 1 {
			register ^= 0xE0
		}
	}
	return register
}

func plainRegister(s string) byte {
	r := byte(0xFF)
	for _, b := range []byte(s) {
		r = plainStep(r, b)
	}
	return r
}

func plainSum(s string) byte { return 0xFF - plainRegister(s) }

// turned is s with one bit turned.
func turned(s string, bit int) string {
	b := []byte(s)
	b[bit/8] ^= 1 << (bit % 8)
	return string(b)
}

// mixed is n bytes of all kinds, the same ones at each call.
func mixed(n int) string {
	b := make([]byte, n)
	x := uint32(n) + 1
	for i := range b {
		x = x*1664525 + 1013904223
		b[i] = byte(x >> 24)
	}
	return string(b)
}

// texts are what the calls are tried with: none, each byte alone, each two bytes, bytes that are no UTF-8, long ones.
func texts() []string {
	out := []string{
		"", "partyline", "\x03\x3f\x01", "\x03\x3f\x01\x1c", "\xff\xfe\x80\xc3", "h\u00e9llo \u20ac",
		strings.Repeat("\x00", 40), strings.Repeat("\xff", 40),
	}
	for a := range 256 {
		out = append(out, string([]byte{byte(a)}))
		for b := range 256 {
			out = append(out, string([]byte{byte(a), byte(b)}))
		}
	}
	for n := 3; n < 300; n++ {
		out = append(out, mixed(n))
	}
	return append(out, mixed(4096), mixed(70000))
}

// P1.1: each register and each byte.
func TestStep(t *testing.T) {
	for r := range 256 {
		for b := range 256 {
			if n, want := fcs.Step(byte(r), byte(b)), plainStep(byte(r), byte(b)); n != want {
				t.Fatalf("Step(%02X, %02X): %02X, not %02X", r, b, n, want)
			}
		}
	}
}

// P1.1: what the chapter and the polynomial's table tell.
func TestStepExamples(t *testing.T) {
	for _, x := range []struct{ register, b, want byte }{
		{0xFF, 0, 0xCF}, {1, 0, 0x91}, {0, 0, 0}, {0, 1, 0x91}, {2, 0, 0xE3}, {0x80, 0, 0xE0}, {0x5A, 0x5A, 0},
	} {
		if n := fcs.Step(x.register, x.b); n != x.want {
			t.Errorf("Step(%02X, %02X): %02X, not %02X", x.register, x.b, n, x.want)
		}
	}
}

// P1.2.
func TestSum(t *testing.T) {
	for _, x := range []struct {
		s    string
		want byte
	}{
		{"", 0}, {"\x03\x3f\x01", 0x1C}, {"\x00", 0x30}, {"\xff", 0xFF},
	} {
		if n := fcs.Sum(x.s); n != x.want {
			t.Errorf("Sum(%X): %02X, not %02X", x.s, n, x.want)
		}
	}
	for _, s := range texts() {
		if n, want := fcs.Sum(s), plainSum(s); n != want {
			t.Fatalf("Sum of %d bytes, %.8X: %02X, not %02X", len(s), s, n, want)
		}
	}
}

// P1.3.
func TestGood(t *testing.T) {
	for _, x := range []struct {
		s    string
		want bool
	}{
		{"\x03\x3f\x01\x1c", true}, {"\x03\x3f\x01\x1d", false}, {"\x03\x3f\x00\x1c", false},
		{"\x03\x3f\x01", false}, {"\x00", true}, {"\x01", false}, {"", false},
	} {
		if fcs.Good(x.s) != x.want {
			t.Errorf("Good(%X): not %t", x.s, x.want)
		}
	}
	for _, s := range texts() {
		if want := plainRegister(s) == 0xCF; fcs.Good(s) != want {
			t.Fatalf("Good of %d bytes, %.8X: not %t", len(s), s, want)
		}
	}
}

// P1.4: each bit that there is.
func TestMend(t *testing.T) {
	if n := fcs.Mend("\x03\x3f\x01", 23); n != 0xE0 {
		t.Errorf("Mend(033F01, 23): %02X", n)
	}
	tried := []string{"\x00", "\xff", "\x03\x3f\x01", "partyline", "h\u00e9llo \u20ac", strings.Repeat("\x00", 40)}
	for n := 1; n < 150; n++ {
		tried = append(tried, mixed(n))
	}
	for _, s := range tried {
		sum := plainSum(s)
		for bit := range 8 * len(s) {
			want := sum ^ plainSum(turned(s, bit))
			if n := fcs.Mend(s, bit); n != want {
				t.Fatalf("Mend of %d bytes, %.8X, bit %d: %02X, not %02X", len(s), s, bit, n, want)
			}
		}
	}
}

// P1.4: a bit far from the end, where the check's turn comes round many times.
func TestMendLong(t *testing.T) {
	s := mixed(70000)
	sum := plainSum(s)
	for _, bit := range []int{0, 1, 7, 8, 255, 256, 65535, 65536, 279999, 559991, 559992, 559999} {
		want := sum ^ plainSum(turned(s, bit))
		if n := fcs.Mend(s, bit); n != want {
			t.Errorf("bit %d: %02X, not %02X", bit, n, want)
		}
	}
}

// P1.4: bits that the bytes don't have.
func TestMendNoBit(t *testing.T) {
	for _, s := range []string{"", "\x00", "\x03\x3f\x01", "partyline", mixed(300)} {
		end := 8 * len(s)
		for _, bit := range []int{-1, -2, -7, -8, -9, -64, -end - 1, end, end + 1, end + 7, end + 8, end + 256,
			math.MinInt, math.MinInt + 1, math.MinInt32, math.MinInt / 8, math.MaxInt32, math.MaxInt / 8, math.MaxInt - 7, math.MaxInt - 1, math.MaxInt} {
			if n := fcs.Mend(s, bit); n != 0 {
				t.Errorf("Mend of %d bytes, bit %d: %02X", len(s), bit, n)
			}
		}
	}
}

// P1.5: bytes with their check behind are good, and with no other byte behind.
func TestCheckBehind(t *testing.T) {
	tried := []string{"", "\x03\x3f\x01", "partyline", mixed(4096)}
	for a := range 256 {
		tried = append(tried, string([]byte{byte(a)}), mixed(a))
	}
	for _, s := range tried {
		sum := fcs.Sum(s)
		for b := range 256 {
			if got, want := fcs.Good(s+string([]byte{byte(b)})), byte(b) == sum; got != want {
				t.Fatalf("%d bytes, %.8X, then %02X: %t, and the check is %02X", len(s), s, b, got, sum)
			}
		}
	}
}

// P1.5: bits turned within eight side by side give another check, wherever they begin, over a byte's end too.
func TestBurst(t *testing.T) {
	for _, s := range []string{"\x00", "\x03\x3f\x01", "partyline", mixed(40), strings.Repeat("\xff", 20)} {
		sum := fcs.Sum(s)
		for start := range 8 * len(s) {
			for pattern := 1; pattern < 256; pattern++ {
				u, fits := burst(s, start, pattern)
				if fits && fcs.Sum(u) == sum {
					t.Fatalf("%.8X: bits %08b from %d on leave the check as it was", s, pattern, start)
				}
			}
		}
	}
}

// burst turns the bits of pattern in s, its lowest at start; false, if s does not have them all.
func burst(s string, start, pattern int) (string, bool) {
	b := []byte(s)
	for i := range 8 {
		if pattern>>i&1 == 0 {
			continue
		}
		at := start + i
		if at >= 8*len(b) {
			return "", false
		}
		b[at/8] ^= 1 << (at % 8)
	}
	return string(b), true
}

// P1.5: what a turned bit does hangs on how many bits are behind it alone.
func TestBitsBehind(t *testing.T) {
	long := mixed(90)
	for n := 1; n < 90; n++ {
		for _, s := range []string{mixed(n), strings.Repeat("\x00", n), strings.Repeat("\xff", n)} {
			for behind := range 8 * n {
				got, want := fcs.Mend(s, 8*n-1-behind), fcs.Mend(long, 8*len(long)-1-behind)
				if got != want || got == 0 {
					t.Fatalf("%d bytes, %.8X, %d bits behind: %02X and %02X", n, s, behind, got, want)
				}
				if does := fcs.Sum(s) ^ fcs.Sum(turned(s, 8*n-1-behind)); does != got {
					t.Fatalf("%d bytes, %.8X, %d bits behind: the check differs in %02X, not %02X", n, s, behind, does, got)
				}
			}
		}
	}
}

// P1.5: two turned bits do what both do, together; the same one twice does nothing.
func TestTwoBits(t *testing.T) {
	for _, s := range []string{"\x03\x3f\x01", "partyline", mixed(20)} {
		sum := fcs.Sum(s)
		for a := range 8 * len(s) {
			for b := range 8 * len(s) {
				got := sum ^ fcs.Sum(turned(turned(s, a), b))
				if want := fcs.Mend(s, a) ^ fcs.Mend(s, b); got != want {
					t.Fatalf("%.8X, bits %d and %d: %02X, not %02X", s, a, b, got, want)
				}
			}
		}
	}
}

// An answer hangs on the call's arguments alone: not on what was asked before.
func TestNothingIsKept(t *testing.T) {
	for range 3 {
		for _, s := range []string{"", "\x03\x3f\x01", "partyline"} {
			if fcs.Sum(s) != plainSum(s) || fcs.Good(s) || !fcs.Good(s+string([]byte{plainSum(s)})) {
				t.Errorf("%X: another answer when asked again", s)
			}
			if fcs.Mend(s, -1) != 0 || fcs.Step(0xFF, 0) != 0xCF {
				t.Errorf("%X: another answer when asked again", s)
			}
		}
		fcs.Mend("partyline", 3)
	}
}
