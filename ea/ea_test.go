package ea_test

import (
	"math"
	"strings"
	"testing"

	"partyline/api"
	"partyline/ea"
)

// plainLength writes a length as the chapter's words say it, by dividing.
func plainLength(n int) string {
	switch {
	case n < 0 || n > 32767:
		return ""
	case n <= 127:
		return string([]byte{byte(2*n + 1)})
	}
	return string([]byte{byte(2 * (n % 128)), byte(n / 128)})
}

// behinds are what may stand behind a length: nothing, octets of both marks, another length, much.
func behinds() []string {
	return []string{"", "\x00", "\x01", "\xff", "\xfe", "A", "\x00\x01", "\xfe\xff", "\xc3\xa9", strings.Repeat("\xff", 40000)}
}

// wrongLengths are numbers that are no length, but for some of which the low bits would be one.
func wrongLengths() []int {
	return []int{
		-1, -2, -5, -127, -128, -129, -255, -256, -32767, -32768, -32769, -65536,
		32768, 32769, 32773, 65535, 65536, 65541, 1 << 20, math.MaxInt/2 + 1, math.MaxInt/2 + 6,
		math.MinInt, math.MinInt + 1, math.MinInt + 5, math.MinInt32, math.MaxInt32, math.MaxInt - 1, math.MaxInt,
	}
}

// P2.1: each number, with C/R and without; none above 63 has an address.
func TestAddress(t *testing.T) {
	for d := range 256 {
		for _, cr := range []bool{false, true} {
			want := 0
			if d <= 63 {
				want = 4*d + 1
				if cr {
					want += 2
				}
			}
			if a := ea.Address(uint8(d), cr); int(a) != want {
				t.Errorf("Address(%d, %t): %02X, not %02X", d, cr, a, want)
			}
		}
	}
}

// P2.1: the chapter's examples, and the edges that it names.
func TestAddressExamples(t *testing.T) {
	for _, x := range []struct {
		dlci uint8
		cr   bool
		want uint8
	}{
		{0, true, 0x03}, {0, false, 0x01}, {1, true, 0x07}, {5, true, 0x17}, {62, false, 0xF9}, {62, true, 0xFB},
		{63, false, 0xFD}, {63, true, 0xFF}, {64, true, 0}, {64, false, 0}, {65, true, 0}, {127, true, 0}, {128, true, 0}, {255, false, 0},
	} {
		if a := ea.Address(x.dlci, x.cr); a != x.want {
			t.Errorf("Address(%d, %t): %02X, not %02X", x.dlci, x.cr, a, x.want)
		}
	}
}

// P2.2: each octet; of one with the mark 0 everything is zero.
func TestSplit(t *testing.T) {
	for a := range 256 {
		var want uint8
		wantCR, wantOK := false, false
		if a%2 == 1 {
			want, wantCR, wantOK = uint8(a/4), a/2%2 == 1, true
		}
		if d, cr, ok := ea.Split(uint8(a)); d != want || cr != wantCR || ok != wantOK {
			t.Errorf("Split(%02X): %d, %t, %t, not %d, %t, %t", a, d, cr, ok, want, wantCR, wantOK)
		}
	}
}

// P2.2: some octets by hand.
func TestSplitExamples(t *testing.T) {
	for _, x := range []struct {
		a, dlci uint8
		cr, ok  bool
	}{
		{0x01, 0, false, true}, {0x03, 0, true, true}, {0x07, 1, true, true}, {0x17, 5, true, true},
		{0xF9, 62, false, true}, {0xFD, 63, false, true}, {0xFF, 63, true, true},
		{0x00, 0, false, false}, {0x02, 0, false, false}, {0xF8, 0, false, false}, {0xFE, 0, false, false},
	} {
		if d, cr, ok := ea.Split(x.a); d != x.dlci || cr != x.cr || ok != x.ok {
			t.Errorf("Split(%02X): %d, %t, %t", x.a, d, cr, ok)
		}
	}
}

// P2.1 and P2.2: an address is split as it was, and 0, which is none, is not.
func TestAddressIsSplit(t *testing.T) {
	for d := range 256 {
		for _, cr := range []bool{false, true} {
			got, gotCR, ok := ea.Split(ea.Address(uint8(d), cr))
			if d <= 63 && (int(got) != d || gotCR != cr || !ok) || d > 63 && (got != 0 || gotCR || ok) {
				t.Errorf("%d, %t: split as %d, %t, %t", d, cr, got, gotCR, ok)
			}
		}
	}
}

// P2.3: each length that there is, and those beside.
func TestLength(t *testing.T) {
	for n := -300; n < 66000; n++ {
		if s, want := ea.Length(n), plainLength(n); s != want {
			t.Fatalf("Length(%d): %X, not %X", n, s, want)
		}
	}
}

// P2.3: the chapter's examples, and the edges that it names.
func TestLengthExamples(t *testing.T) {
	for _, x := range []struct {
		n    int
		want string
	}{
		{0, "\x01"}, {1, "\x03"}, {5, "\x0b"}, {126, "\xfd"}, {127, "\xff"}, {128, "\x00\x01"}, {129, "\x02\x01"},
		{255, "\xfe\x01"}, {256, "\x00\x02"}, {300, "\x58\x02"}, {32639, "\xfe\xfe"}, {32640, "\x00\xff"}, {32766, "\xfc\xff"}, {32767, "\xfe\xff"},
		{-1, ""}, {32768, ""},
	} {
		if s := ea.Length(x.n); s != x.want {
			t.Errorf("Length(%d): %X, not %X", x.n, s, x.want)
		}
	}
}

// P2.3: what is no length is not written, however its low bits look.
func TestLengthWrong(t *testing.T) {
	for _, n := range wrongLengths() {
		if s := ea.Length(n); s != "" {
			t.Errorf("Length(%d): %X", n, s)
		}
	}
}

// P2.4: the chapter's examples, a length in two octets though one would do, octets behind.
func TestTakeExamples(t *testing.T) {
	for _, x := range []struct {
		s       string
		n, size int
	}{
		{"\x0bA", 5, 1}, {"\x00\x01", 128, 2}, {"\x04\x00", 2, 2}, {"\x01", 0, 1}, {"\xff", 127, 1}, {"\xff\xff", 127, 1},
		{"\x00\x00", 0, 2}, {"\xfe\x00", 127, 2}, {"\xfe\x00\x00", 127, 2}, {"\x02\x01", 129, 2}, {"\x00\xff", 32640, 2},
		{"\xfe\xff", 32767, 2}, {"\xfe\xff\xff", 32767, 2}, {"\x00\x01\x00\x01", 128, 2}, {"\x03\x03", 1, 1},
	} {
		if n, size, e := ea.Take(x.s); n != x.n || size != x.size || e != api.OK {
			t.Errorf("Take(%X): %d, %d, %v", x.s, n, size, e)
		}
	}
}

// P2.4: each two octets, whatever stands behind.
func TestTake(t *testing.T) {
	for a := range 256 {
		for b := range 256 {
			n, size := a/2, 1
			if a%2 == 0 {
				n, size = a/2+128*b, 2
			}
			for _, behind := range []string{"", "\x00", "\xff", "zz"} {
				s := string([]byte{byte(a), byte(b)}) + behind
				if gotN, gotSize, e := ea.Take(s); gotN != n || gotSize != size || e != api.OK {
					t.Fatalf("Take(%X): %d, %d, %v, not %d, %d", s, gotN, gotSize, e, n, size)
				}
			}
		}
	}
}

// P2.4: octets that are not whole: none at all, and one alone with the mark 0.
func TestTakeShort(t *testing.T) {
	short := []string{""}
	for a := 0; a < 256; a += 2 {
		short = append(short, string([]byte{byte(a)}))
	}
	for _, s := range short {
		if n, size, e := ea.Take(s); n != 0 || size != 0 || e != api.ErrShort {
			t.Errorf("Take(%X): %d, %d, %v", s, n, size, e)
		}
	}
	for a := 1; a < 256; a += 2 {
		s := string([]byte{byte(a)})
		if n, size, e := ea.Take(s); n != a/2 || size != 1 || e != api.OK {
			t.Errorf("Take(%X): %d, %d, %v", s, n, size, e)
		}
	}
}

// P2.5: what is written is taken as it was, whatever stands behind.
func TestWrittenIsTaken(t *testing.T) {
	for n := range 32768 {
		s := ea.Length(n)
		for _, behind := range behinds() {
			if len(behind) > 2 && n%1000 != 0 {
				continue
			}
			if got, size, e := ea.Take(s + behind); got != n || size != len(s) || e != api.OK {
				t.Fatalf("%d with %d octets behind: taken as %d, %d, %v", n, len(behind), got, size, e)
			}
		}
	}
}

// P2.5: what is written and is cut off is short.
func TestWrittenIsCut(t *testing.T) {
	for _, n := range []int{0, 5, 127, 128, 129, 300, 32767} {
		s := ea.Length(n)
		for cut := range len(s) {
			if got, size, e := ea.Take(s[:cut]); got != 0 || size != 0 || e != api.ErrShort {
				t.Errorf("%d, %d octets of it: taken as %d, %d, %v", n, cut, got, size, e)
			}
		}
	}
}

// P2.5: what is taken in one octet, or of 128 and more, is written so; in two octets, though one would do, it is not.
func TestTakenIsWritten(t *testing.T) {
	for a := range 256 {
		for b := range 256 {
			s := string([]byte{byte(a), byte(b)})
			n, size, e := ea.Take(s)
			if e != api.OK || size < 1 || size > len(s) {
				t.Fatalf("Take(%X): %d, %d, %v", s, n, size, e)
			}
			same := ea.Length(n) == s[:size]
			if want := size == 1 || n >= 128; same != want {
				t.Fatalf("%X is taken as %d of %d octets, which is written %X", s, n, size, ea.Length(n))
			}
		}
	}
}

// P2.5: a row of lengths is taken one by one.
func TestRow(t *testing.T) {
	lengths := []int{0, 32767, 127, 128, 5, 5, 129, 300, 32640, 1}
	var row strings.Builder
	for _, n := range lengths {
		row.WriteString(ea.Length(n))
	}
	s := row.String()
	for i, n := range lengths {
		got, size, e := ea.Take(s)
		if got != n || e != api.OK || size < 1 || size > len(s) {
			t.Fatalf("%d: %d, %d, %v, not %d", i, got, size, e, n)
		}
		s = s[size:]
	}
	if s != "" {
		t.Errorf("left: %X", s)
	}
}

// An answer hangs on the call's arguments alone: not on what was asked before.
func TestNothingIsKept(t *testing.T) {
	for range 3 {
		if a := ea.Address(64, true); a != 0 {
			t.Errorf("Address(64, true): %02X", a)
		}
		if a := ea.Address(62, false); a != 0xF9 {
			t.Errorf("Address(62, false): %02X", a)
		}
		if d, cr, ok := ea.Split(0xFE); d != 0 || cr || ok {
			t.Errorf("Split(FE): %d, %t, %t", d, cr, ok)
		}
		if one, two := ea.Length(5), ea.Length(128); one != "\x0b" || two != "\x00\x01" {
			t.Errorf("Length: %X, %X", one, two)
		}
		if n, size, e := ea.Take("\x00"); n != 0 || size != 0 || e != api.ErrShort {
			t.Errorf("Take(00): %d, %d, %v", n, size, e)
		}
		if n, size, e := ea.Take("\x04\x00"); n != 2 || size != 2 || e != api.OK {
			t.Errorf("Take(0400): %d, %d, %v", n, size, e)
		}
	}
}
