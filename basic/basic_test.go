package basic_test

import (
	"math"
	"strings"
	"testing"
	"unsafe"

	"partyline/api"
	"partyline/basic"
)

// kindSaid is what chapter 3 says of a kind: its control octet without numbers and bit, and what it may be and have.
type kindSaid struct {
	octet             int
	hasNS, hasNR      bool
	information       bool
	command, response bool
}

// kindsSaid are the kinds by their numbers; 0 is none.
var kindsSaid = []kindSaid{
	{},
	{0x2F, false, false, false, true, false},
	{0x63, false, false, false, false, true},
	{0x0F, false, false, false, false, true},
	{0x43, false, false, false, true, false},
	{0xEF, false, false, true, true, true},
	{0x03, false, false, true, true, true},
	{0x00, true, true, true, true, true},
	{0x01, false, true, false, true, true},
	{0x05, false, true, false, true, true},
	{0x09, false, true, false, true, true},
}

const uih = 5

var (
	bools = []bool{false, true}
	// lengths of information: the edges that the chapter names, and those beside.
	lengths = []int{0, 1, 2, 30, 31, 32, 126, 127, 128, 129, 130, 255, 256, 300}
	// n1s are numbers with and without a room of their own.
	n1s = []int{math.MinInt, math.MinInt32, -129, -128, -127, -1, 0, 1, 2, 31, 126, 127, 128, 129, 255, 256, 257, 1000, 32768, math.MaxInt32, 1 << 32, math.MaxInt - 1, math.MaxInt}
)

// plainCheck takes bytes bit by bit, as chapter 1 says it.
func plainCheck(s string) byte {
	r := byte(0xFF)
	for _, b := range []byte(s) {
		r ^= b
		for range 8 {
			fell := r & 1
			r >>= 1
			if fell == 1 {
				r ^= 0xE0
			}
		}
	}
	return 0xFF - r
}

// plainLength writes a length as chapter 2 says it.
func plainLength(n int) string {
	if n <= 127 {
		return string([]byte{byte(2*n + 1)})
	}
	return string([]byte{byte(2 * (n % 128)), byte(n / 128)})
}

// plainTwo writes a length in two octets, though one would do.
func plainTwo(n int) string { return string([]byte{byte(2 * (n % 128)), byte(n / 128)}) }

// plainRoom is the room, by cases.
func plainRoom(n1 int) int {
	if n1 < 0 {
		return 0
	}
	if n1 > 128 {
		return 128
	}
	return n1
}

// plainControl is a frame's control octet; false, if it has none.
func plainControl(f api.Frame) (byte, bool) {
	if f.Kind == 0 || int(f.Kind) >= len(kindsSaid) {
		return 0, false
	}
	k := kindsSaid[f.Kind]
	if f.NS > 7 || f.NR > 7 || f.NS > 0 && !k.hasNS || f.NR > 0 && !k.hasNR {
		return 0, false
	}
	c := k.octet + 2*int(f.NS) + 0x20*int(f.NR)
	if f.PF {
		c += 0x10
	}
	return byte(c), true
}

// plainMay asks whether the kind may be that, and carry what it does.
func plainMay(f api.Frame) bool {
	k := kindsSaid[f.Kind]
	if f.Command && !k.command || !f.Command && !k.response {
		return false
	}
	return f.Info == "" || k.information
}

// bodyOf puts a body together of an address, a control octet, a length's octets and information, with its check behind.
func bodyOf(address, control byte, length, info string) string {
	head := string([]byte{address, control}) + length
	check := plainCheck(head + info)
	if control&^0x10 == 0xEF {
		check = plainCheck(head)
	}
	return head + info + string([]byte{check})
}

// plainEncode is P4.1, as its words say it.
func plainEncode(f api.Frame, initiator bool, n1 int) (string, api.Errno) {
	c, ok := plainControl(f)
	if f.DLCI > 63 || !ok || !plainMay(f) {
		return "", api.ErrArg
	}
	address := 4*int(f.DLCI) + 1
	if f.Command && initiator || !f.Command && !initiator {
		address += 2
	}
	if address == 0xF9 {
		return "", api.ErrArg
	}
	if len(f.Info) > plainRoom(n1) {
		return "", api.ErrLimit
	}
	return "\xf9" + bodyOf(byte(address), c, plainLength(len(f.Info)), f.Info) + "\xf9", api.OK
}

// controls are the frames of all control octets, without channel, information and what they are.
func controls() map[byte]api.Frame {
	out := map[byte]api.Frame{}
	for kind := 1; kind < len(kindsSaid); kind++ {
		for ns := range uint8(8) {
			for nr := range uint8(8) {
				for _, pf := range bools {
					f := api.Frame{Kind: uint8(kind), PF: pf, NS: ns, NR: nr}
					if c, ok := plainControl(f); ok {
						out[c] = f
					}
				}
			}
		}
	}
	return out
}

// parts is a body taken apart in the plainest way; ok, if it is one in its octets.
func parts(s string) (address, control byte, head, info string, check byte, ok bool) {
	if len(s) < 4 || s[0]%2 == 0 || s[0] == 0xF9 {
		return
	}
	n, at := int(s[2])/2, 3
	if s[2]%2 == 0 {
		n, at = n+128*int(s[3]), 4
		if n < 128 {
			return
		}
	}
	if len(s) != at+n+1 {
		return
	}
	return s[0], s[1], s[:at], s[at : at+n], s[at+n], true
}

// plainDecode is P4.2, as its words say it.
func plainDecode(s string, initiator bool, n1 int, says map[byte]api.Frame) (api.Frame, api.Errno) {
	address, control, head, info, check, ok := parts(s)
	if !ok {
		return api.Frame{}, api.ErrFrame
	}
	f, ok := says[control]
	if !ok {
		return api.Frame{}, api.ErrField
	}
	of := head + info
	if f.Kind == uih {
		of = head
	}
	if plainCheck(of) != check {
		return api.Frame{}, api.ErrFCS
	}
	f.DLCI, f.Info = address/4, info
	cr := address/2%2 == 1
	if initiator {
		f.Command = cr
	} else {
		f.Command = !cr
	}
	if !plainMay(f) {
		return api.Frame{}, api.ErrFrame
	}
	if len(info) > plainRoom(n1) {
		return api.Frame{}, api.ErrLimit
	}
	return f, api.OK
}

// mixed is n bytes of all kinds, flags among them, the same ones at each call.
func mixed(n int) string {
	b := make([]byte, n)
	x := uint32(n) + 1
	for i := range b {
		x = x*1664525 + 1013904223
		b[i] = byte(x >> 24)
		if i%7 == 3 {
			b[i] = 0xF9
		}
	}
	return string(b)
}

// body is what Encode answers, without its flags.
func body(t *testing.T, f api.Frame, initiator bool) string {
	t.Helper()
	s, e := basic.Encode(f, initiator, 128)
	if e != api.OK || len(s) < 6 {
		t.Fatalf("Encode(%#v, %t, 128): %X, %v", f, initiator, s, e)
	}
	return s[1 : len(s)-1]
}

func tryEncode(t *testing.T, f api.Frame, initiator bool, n1 int) {
	t.Helper()
	want, wantE := plainEncode(f, initiator, n1)
	if s, e := basic.Encode(f, initiator, n1); s != want || e != wantE {
		t.Fatalf("Encode(%#v, %t, %d): %X, %v, not %X, %v", f, initiator, n1, s, e, want, wantE)
	}
}

func tryDecode(t *testing.T, s string, initiator bool, n1 int, says map[byte]api.Frame) {
	t.Helper()
	want, wantE := plainDecode(s, initiator, n1, says)
	if f, e := basic.Decode(s, initiator, n1); f != want || e != wantE {
		t.Fatalf("Decode(%X, %t, %d): %#v, %v, not %#v, %v", s, initiator, n1, f, e, want, wantE)
	}
}

// wantDecode holds what Decode answers against an error; with one there is no frame.
func wantDecode(t *testing.T, s string, initiator bool, n1 int, want api.Errno) {
	t.Helper()
	f, e := basic.Decode(s, initiator, n1)
	if e != want || e != api.OK && f != (api.Frame{}) {
		t.Errorf("Decode(%.40X, %t, %d): %#v, %v, not %v", s, initiator, n1, f, e, want)
	}
}

// The flag is the chapter's.
func TestFlag(t *testing.T) {
	if basic.Flag != 0xF9 {
		t.Errorf("the flag: %02X", basic.Flag)
	}
}

// P4.1: each channel's number, each kind and what is none, of both sides, commands and responses.
func TestEncodeChannels(t *testing.T) {
	for dlci := range 256 {
		for kind := range 256 {
			for _, command := range bools {
				for _, initiator := range bools {
					for _, info := range []string{"", "a"} {
						tryEncode(t, api.Frame{DLCI: uint8(dlci), Command: command, Kind: uint8(kind), PF: true, Info: info}, initiator, 31)
					}
				}
			}
		}
	}
}

// P4.1: all numbers that a kind may have, and those one past.
func TestEncodeNumbers(t *testing.T) {
	for kind := range uint8(12) {
		for _, ns := range []uint8{0, 1, 2, 3, 4, 5, 6, 7, 8, 9, 16, 128, 255} {
			for _, nr := range []uint8{0, 1, 2, 3, 4, 5, 6, 7, 8, 9, 16, 128, 255} {
				for _, pf := range bools {
					for _, command := range bools {
						tryEncode(t, api.Frame{DLCI: 9, Command: command, Kind: kind, PF: pf, NS: ns, NR: nr}, true, 31)
					}
				}
			}
		}
	}
}

// P4.1: information of all lengths round the edges, and each n1, of each kind.
func TestEncodeLengths(t *testing.T) {
	for kind := range uint8(12) {
		for _, n := range lengths {
			for _, n1 := range n1s {
				for _, command := range bools {
					for _, initiator := range bools {
						tryEncode(t, api.Frame{DLCI: 1, Command: command, Kind: kind, Info: mixed(n)}, initiator, n1)
					}
				}
			}
		}
	}
	for n := range 140 {
		tryEncode(t, api.Frame{DLCI: 63, Command: true, Kind: api.I, NS: 3, NR: 4, Info: mixed(n)}, true, 128)
		tryEncode(t, api.Frame{DLCI: 63, Command: true, Kind: api.UIH, Info: mixed(n)}, true, n)
		tryEncode(t, api.Frame{DLCI: 63, Command: true, Kind: api.UI, Info: mixed(n)}, true, n-1)
	}
}

// P4.1: the chapter's examples, and bytes by hand.
func TestEncodeExamples(t *testing.T) {
	for _, x := range []struct {
		f         api.Frame
		initiator bool
		want      string
	}{
		{api.Frame{Command: true, Kind: api.SABM, PF: true}, true, "\xf9\x03\x3f\x01\x1c\xf9"},
		{api.Frame{DLCI: 1, Command: true, Kind: api.SABM, PF: true}, true, "\xf9\x07\x3f\x01\xde\xf9"},
		{api.Frame{Kind: api.UA, PF: true}, false, "\xf9\x03\x73\x01\xd7\xf9"},
		{api.Frame{Command: true, Kind: api.DISC, PF: true}, true, "\xf9\x03\x53\x01\xfd\xf9"},
		{api.Frame{DLCI: 1, Command: true, Kind: api.UIH, Info: "abc"}, true, "\xf9\x07\xef\x07" + "abc" + "\xd3\xf9"},
		{api.Frame{DLCI: 1, Command: true, Kind: api.UI, Info: "abc"}, true, "\xf9\x07\x03\x07" + "abc" + "\xa3\xf9"},
	} {
		if s, e := basic.Encode(x.f, x.initiator, 31); s != x.want || e != api.OK {
			t.Errorf("Encode(%#v): %X, %v, not %X", x.f, s, e, x.want)
		}
	}
	if s, e := basic.Encode(api.Frame{Command: true, Kind: api.UA}, true, 31); s != "" || e != api.ErrArg {
		t.Errorf("UA, a command: %X, %v", s, e)
	}
	if s, e := basic.Encode(api.Frame{DLCI: 1, Command: true, Kind: api.UIH, Info: mixed(128)}, true, 127); s != "" || e != api.ErrLimit {
		t.Errorf("128 bytes, n1 127: %X, %v", s, e)
	}
}

// P4.1: C/R is 1 of a command of the initiator, and of a response of the other side.
func TestEncodeSides(t *testing.T) {
	for _, x := range []struct {
		command, initiator bool
		address            byte
	}{
		{true, true, 0x17}, {false, false, 0x17}, {true, false, 0x15}, {false, true, 0x15},
	} {
		s, e := basic.Encode(api.Frame{DLCI: 5, Command: x.command, Kind: api.RR}, x.initiator, 31)
		if e != api.OK || len(s) < 2 || s[1] != x.address {
			t.Errorf("%v: %X, %v", x, s, e)
		}
	}
}

// P4.1: the channel 62 has no frame whose address is the flag; its neighbours have all, 64 has none.
func TestEncodeFlagAddress(t *testing.T) {
	for _, x := range []struct {
		dlci               uint8
		command, initiator bool
		want               api.Errno
	}{
		{62, true, true, api.OK}, {62, false, false, api.OK}, {62, true, false, api.ErrArg}, {62, false, true, api.ErrArg},
		{61, true, false, api.OK}, {61, false, true, api.OK}, {63, true, false, api.OK}, {63, false, true, api.OK}, {63, true, true, api.OK},
		{0, true, true, api.OK}, {0, false, true, api.OK}, {0, true, false, api.OK},
		{64, true, true, api.ErrArg}, {64, false, true, api.ErrArg}, {126, true, false, api.ErrArg}, {126, true, true, api.ErrArg}, {255, true, true, api.ErrArg},
	} {
		if s, e := basic.Encode(api.Frame{DLCI: x.dlci, Command: x.command, Kind: api.UI, Info: "a"}, x.initiator, 31); e != x.want || (s == "") != (e != api.OK) {
			t.Errorf("%v: %X, %v", x, s, e)
		}
	}
}

// P4.1: what may not be is told ahead of what is too long.
func TestEncodeOrder(t *testing.T) {
	long := mixed(200)
	for _, f := range []api.Frame{
		{DLCI: 64, Command: true, Kind: api.UIH, Info: long}, {DLCI: 62, Kind: api.UIH, Info: long}, {DLCI: 1, Command: true, Kind: 0, Info: long}, {DLCI: 1, Command: true, Kind: 11, Info: long},
		{DLCI: 1, Command: true, Kind: api.I, NS: 8, Info: long}, {DLCI: 1, Command: true, Kind: api.UIH, NR: 1, Info: long}, {DLCI: 1, Command: true, Kind: api.UA, Info: long},
		{DLCI: 1, Kind: api.SABM, Info: long}, {DLCI: 1, Command: true, Kind: api.SABM, Info: long}, {DLCI: 1, Command: true, Kind: api.RR, Info: long}, {DLCI: 1, Kind: api.DM, Info: long},
	} {
		for _, n1 := range n1s {
			if s, e := basic.Encode(f, true, n1); s != "" || e != api.ErrArg {
				t.Errorf("Encode(%#v, true, %d): %X, %v", f, n1, s, e)
			}
		}
	}
	if s, e := basic.Encode(api.Frame{DLCI: 1, Command: true, Kind: api.UIH, Info: long}, true, math.MaxInt); s != "" || e != api.ErrLimit {
		t.Errorf("too long: %X, %v", s, e)
	}
}

// P4.1: information far beyond all lengths, whose low bits would be a short one.
func TestEncodeHuge(t *testing.T) {
	for _, n := range []int{32767, 32768, 32769, 65536, 65537, 1 << 20} {
		for _, n1 := range []int{0, 128, math.MaxInt} {
			if s, e := basic.Encode(api.Frame{DLCI: 1, Command: true, Kind: api.UIH, Info: strings.Repeat("a", n)}, true, n1); s != "" || e != api.ErrLimit {
				t.Errorf("%d bytes, n1 %d: %d bytes, %v", n, n1, len(s), e)
			}
		}
	}
}

// P4.2: each address and each control octet, with and without information, with the right check and a wrong one, of both sides.
func TestDecodeHeads(t *testing.T) {
	says := controls()
	if len(says) != 188 {
		t.Fatalf("%d control octets", len(says))
	}
	for address := range 256 {
		for control := range 256 {
			for _, info := range []string{"", "a", "\xf9"} {
				s := bodyOf(byte(address), byte(control), plainLength(len(info)), info)
				wrong := s[:len(s)-1] + string([]byte{s[len(s)-1] ^ 0x40})
				for _, initiator := range bools {
					tryDecode(t, s, initiator, 31, says)
					tryDecode(t, wrong, initiator, 31, says)
				}
				tryDecode(t, s, true, 0, says)
			}
		}
	}
}

// P4.2: information of all lengths round the edges, and each n1, in as few octets as may be and in two.
func TestDecodeLengths(t *testing.T) {
	says := controls()
	for _, control := range []byte{0xEF, 0xFF, 0x03, 0x00, 0xA4, 0x2F, 0x63, 0x01, 0x0D} {
		for _, n := range append([]int{16384, 32767}, lengths...) {
			for _, length := range []string{plainLength(n), plainTwo(n)} {
				s := bodyOf(0x07, control, length, mixed(n))
				for _, n1 := range n1s {
					tryDecode(t, s, true, n1, says)
				}
				tryDecode(t, s, false, 128, says)
			}
		}
	}
}

// P4.2: a length in more octets than need be is no frame, though all else is right.
func TestDecodeLongLength(t *testing.T) {
	for _, control := range []byte{0xEF, 0x03, 0x00} {
		for n := range 131 {
			want := api.OK
			if n < 128 {
				want = api.ErrFrame
			}
			if n > 128 {
				want = api.ErrLimit
			}
			wantDecode(t, bodyOf(0x07, control, plainTwo(n), mixed(n)), true, 128, want)
		}
	}
}

// P4.2: the chapter's examples, and some by hand.
func TestDecodeExamples(t *testing.T) {
	for _, x := range []struct {
		s         string
		initiator bool
		want      api.Frame
	}{
		{"\x03\x3f\x01\x1c", true, api.Frame{Command: true, Kind: api.SABM, PF: true}},
		{"\x07\x3f\x01\xde", true, api.Frame{DLCI: 1, Command: true, Kind: api.SABM, PF: true}},
		{"\x03\x73\x01\xd7", false, api.Frame{Kind: api.UA, PF: true}},
		{"\x07\xef\x07" + "abc" + "\xd3", true, api.Frame{DLCI: 1, Command: true, Kind: api.UIH, Info: "abc"}},
		{"\x07\xef\x07" + "\xf9\x00z" + "\xd3", true, api.Frame{DLCI: 1, Command: true, Kind: api.UIH, Info: "\xf9\x00z"}},
		{"\x07\xef\x07" + "abc" + "\xd3", false, api.Frame{DLCI: 1, Kind: api.UIH, Info: "abc"}},
	} {
		if f, e := basic.Decode(x.s, x.initiator, 31); f != x.want || e != api.OK {
			t.Errorf("Decode(%X): %#v, %v, not %#v", x.s, f, e, x.want)
		}
	}
	wantDecode(t, "\x03\x3f\x01\x1d", true, 31, api.ErrFCS)
	wantDecode(t, "\x03\x3f\x03\x1c", true, 31, api.ErrFrame)
}

// P4.2: short texts that are no body: nothing, each byte alone, each two and each three.
func TestDecodeShort(t *testing.T) {
	wantDecode(t, "", true, 31, api.ErrFrame)
	for a := range 256 {
		wantDecode(t, string([]byte{byte(a)}), true, 31, api.ErrFrame)
		for b := range 256 {
			wantDecode(t, string([]byte{byte(a), byte(b)}), true, 31, api.ErrFrame)
			wantDecode(t, string([]byte{byte(a), byte(b), 0x01}), true, 31, api.ErrFrame)
			wantDecode(t, string([]byte{0x03, byte(a), byte(b)}), true, 31, api.ErrFrame)
		}
	}
}

// P4.2: a body that is cut short, or has a byte more, ahead or behind, is no frame: nor with its flags.
func TestDecodeCut(t *testing.T) {
	for _, n := range []int{0, 1, 2, 126, 127, 128} {
		for _, kind := range []uint8{api.UIH, api.UI, api.I} {
			s := body(t, api.Frame{DLCI: 1, Command: true, Kind: kind, Info: mixed(n)}, true)
			for cut := range len(s) {
				wantDecode(t, s[:cut], true, 128, api.ErrFrame)
			}
			for b := range 256 {
				wantDecode(t, s+string([]byte{byte(b)}), true, 128, api.ErrFrame)
			}
			for _, more := range []string{"\x00\x00", "\xf9\xf9", s, mixed(40000)} {
				wantDecode(t, s+more, true, 128, api.ErrFrame)
			}
			wantDecode(t, "\xf9"+s, true, 128, api.ErrFrame)
			wantDecode(t, "\xf9"+s+"\xf9", true, 128, api.ErrFrame)
			wantDecode(t, s, true, 128, api.OK)
		}
	}
}

// P4.2: a length that tells more or less than there is, though the check is right.
func TestDecodeLengthThatLies(t *testing.T) {
	for _, control := range []byte{0xEF, 0x03, 0x00} {
		for there := range 131 {
			for _, told := range []int{0, 1, there - 2, there - 1, there + 1, there + 2, 127, 128, 255, 32767} {
				if told < 0 || told == there {
					continue
				}
				wantDecode(t, bodyOf(0x07, control, plainLength(told), mixed(there)), true, 128, api.ErrFrame)
			}
		}
	}
}

// P4.2: of several faults the first one in the promise's row is told.
func TestDecodeOrder(t *testing.T) {
	wrong := func(s string) string { return s[:len(s)-1] + string([]byte{^s[len(s)-1]}) }
	long := mixed(200)
	l := plainLength(200)
	for _, x := range []struct {
		s    string
		want api.Errno
	}{
		// What is no body's octets, ahead of all: an address without mark, the flag's, a length in two octets, a byte more.
		{wrong(bodyOf(0x06, 0x0D, l, long)), api.ErrFrame}, {wrong(bodyOf(0xF9, 0x0D, l, long)), api.ErrFrame}, {wrong(bodyOf(0x07, 0x0D, "\x00\x00", "")), api.ErrFrame}, {wrong(bodyOf(0x07, 0x0D, l, long)) + "\x00", api.ErrFrame},
		// A control octet that is none, ahead of a wrong check.
		{bodyOf(0x07, 0x0D, l, long), api.ErrField}, {wrong(bodyOf(0x07, 0x0D, l, long)), api.ErrField}, {wrong(bodyOf(0x05, 0x6F, "\x01", "")), api.ErrField},
		// A wrong check, ahead of what may not be, and of what is too long: UA, a command; SABM, a response; SABM with information.
		{wrong(bodyOf(0x07, 0x63, l, long)), api.ErrFCS}, {wrong(bodyOf(0x05, 0x2F, "\x01", "")), api.ErrFCS}, {wrong(bodyOf(0x07, 0x2F, "\x03", "a")), api.ErrFCS}, {wrong(bodyOf(0x07, 0xEF, l, long)), api.ErrFCS}, {wrong(bodyOf(0x07, 0x03, l, long)), api.ErrFCS},
		// What may not be, ahead of what is too long.
		{bodyOf(0x07, 0x63, "\x01", ""), api.ErrFrame}, {bodyOf(0x07, 0x0F, "\x01", ""), api.ErrFrame}, {bodyOf(0x05, 0x2F, "\x01", ""), api.ErrFrame}, {bodyOf(0x05, 0x43, "\x01", ""), api.ErrFrame},
		{bodyOf(0x07, 0x2F, l, long), api.ErrFrame}, {bodyOf(0x05, 0x63, l, long), api.ErrFrame}, {bodyOf(0x07, 0x01, l, long), api.ErrFrame}, {bodyOf(0x07, 0x05, "\x03", "a"), api.ErrFrame}, {bodyOf(0x05, 0x09, "\x03", "a"), api.ErrFrame},
		// Too long alone.
		{bodyOf(0x07, 0xEF, l, long), api.ErrLimit}, {bodyOf(0x05, 0x03, l, long), api.ErrLimit}, {bodyOf(0x07, 0x00, l, long), api.ErrLimit},
	} {
		wantDecode(t, x.s, true, 31, x.want)
	}
}

// P4.2: the limit is n1's room, which is at most 128, whatever n1 says, and may be none.
func TestDecodeLimit(t *testing.T) {
	for _, n := range []int{0, 1, 30, 31, 32, 126, 127, 128, 129, 130} {
		for _, n1 := range n1s {
			want := api.OK
			if n > plainRoom(n1) {
				want = api.ErrLimit
			}
			wantDecode(t, bodyOf(0x07, 0xEF, plainLength(n), mixed(n)), true, n1, want)
			wantDecode(t, bodyOf(0x07, 0x00, plainLength(n), mixed(n)), true, n1, want)
		}
	}
}

// P4.1 and P4.2: the check of an UIH is of its head alone, of all others of the information, too.
func TestWhatIsChecked(t *testing.T) {
	for _, pf := range bools {
		for _, n := range []int{1, 31, 127, 128} {
			info := mixed(n)
			other := strings.Repeat("\x55", n)
			for _, kind := range []uint8{api.UIH, api.UI, api.I} {
				f := api.Frame{DLCI: 3, Command: true, Kind: kind, PF: pf, Info: info}
				s := body(t, f, true)
				changed := s[:len(s)-1-n] + other + s[len(s)-1:]
				g, e := basic.Decode(changed, true, 128)
				if kind == api.UIH {
					f.Info = other
					if g != f || e != api.OK {
						t.Errorf("UIH with other information: %#v, %v", g, e)
					}
				} else if (e != api.ErrFCS || g != api.Frame{}) && plainCheck(changed[:len(s)-1]) != s[len(s)-1] {
					t.Errorf("kind %d with other information: %#v, %v", kind, g, e)
				}
			}
		}
	}
}

// P4.3.
func TestRoom(t *testing.T) {
	for _, x := range []struct{ n1, want int }{
		{math.MinInt, 0}, {math.MinInt32, 0}, {-256, 0}, {-128, 0}, {-1, 0}, {0, 0}, {1, 1}, {3, 3}, {31, 31}, {126, 126}, {127, 127}, {128, 128},
		{129, 128}, {130, 128}, {255, 128}, {256, 128}, {257, 128}, {4096, 128}, {math.MaxInt32, 128}, {1 << 32, 128}, {1<<32 + 5, 128}, {math.MaxInt, 128},
	} {
		if n := basic.Room(x.n1); n != x.want {
			t.Errorf("Room(%d): %d, not %d", x.n1, n, x.want)
		}
	}
	for n1 := -300; n1 < 600; n1++ {
		if n := basic.Room(n1); n != plainRoom(n1) {
			t.Errorf("Room(%d): %d", n1, n)
		}
	}
}

// seen is a text whose bytes the test may look at, and change, behind the program's back.
func seen(s string) ([]byte, string) {
	b := []byte(s)
	return b, unsafe.String(unsafe.SliceData(b), len(b))
}

// P4.4: what Encode is handed is as it was, and what it answers has nothing of it.
func TestEncodeMemory(t *testing.T) {
	for _, n := range []int{1, 2, 31, 127, 128} {
		for _, kind := range []uint8{api.UIH, api.UI, api.I} {
			b, info := seen(mixed(n))
			f := api.Frame{DLCI: 1, Command: true, Kind: kind, Info: info}
			want, _ := plainEncode(api.Frame{DLCI: 1, Command: true, Kind: kind, Info: mixed(n)}, true, 128)
			one, _ := basic.Encode(f, true, 128)
			two, _ := basic.Encode(f, true, 128)
			if string(b) != mixed(n) {
				t.Fatalf("%d bytes: the information has been changed", n)
			}
			if unsafe.StringData(one) == unsafe.StringData(two) {
				t.Errorf("%d bytes: two answers share their memory", n)
			}
			clear(b)
			if one != want || two != want {
				t.Errorf("%d bytes: the answer changes with what was handed in", n)
			}
		}
	}
}

// P4.4: what Decode is handed is as it was, and the frame's information has nothing of it.
func TestDecodeMemory(t *testing.T) {
	for _, n := range []int{1, 2, 31, 127, 128} {
		for _, kind := range []uint8{api.UIH, api.UI, api.I} {
			was := body(t, api.Frame{DLCI: 1, Command: true, Kind: kind, Info: mixed(n)}, true)
			b, s := seen(was)
			one, _ := basic.Decode(s, true, 128)
			two, _ := basic.Decode(s, true, 128)
			basic.Decode(s, false, 0)
			if string(b) != was {
				t.Fatalf("%d bytes: the body has been changed", n)
			}
			if n > 1 && unsafe.StringData(one.Info) == unsafe.StringData(two.Info) {
				t.Errorf("%d bytes: two answers share their memory", n)
			}
			clear(b)
			if one.Info != mixed(n) || two.Info != mixed(n) {
				t.Errorf("%d bytes: the answer changes with what was handed in", n)
			}
		}
	}
}

// P4.5: what is encoded is decoded as it was: by the same side alone.
func TestEncodedIsDecoded(t *testing.T) {
	n := 0
	for _, dlci := range []uint8{0, 1, 2, 31, 32, 61, 62, 63, 64} {
		for _, bare := range controls() {
			for _, size := range []int{0, 1, 126, 127, 128, 129} {
				for _, command := range bools {
					for _, initiator := range bools {
						f := bare
						f.DLCI, f.Command, f.Info = dlci, command, mixed(size)
						s, e := basic.Encode(f, initiator, 128)
						if e != api.OK {
							continue
						}
						n++
						if s[0] != basic.Flag || s[len(s)-1] != basic.Flag {
							t.Fatalf("%#v: %X", f, s)
						}
						if g, e := basic.Decode(s[1:len(s)-1], initiator, 128); g != f || e != api.OK {
							t.Fatalf("%#v is encoded %X, and decoded %#v, %v", f, s, g, e)
						}
						if g, e := basic.Decode(s[1:len(s)-1], !initiator, 128); e == api.OK && g.Command == command {
							t.Fatalf("%#v is decoded as the other side's %#v", f, g)
						}
					}
				}
			}
		}
	}
	// Of I 128 control octets, of UIH and UI 2 each, with information of five sizes; of RR, RNR and REJ 16 each: all of them four ways; of SABM, UA, DM and DISC 2 each, two ways. Of seven channels all, of 62 the half, of 64 none.
	if want := (4*(5*(128+2+2)+3*16) + 2*4*2) * 15 / 2; n != want {
		t.Errorf("%d frames, not %d", n, want)
	}
}

// P4.5: what is decoded is encoded so.
func TestDecodedIsEncoded(t *testing.T) {
	n := 0
	for address := range 256 {
		for control := range 256 {
			for _, info := range []string{"", "a", "\xf9"} {
				s := bodyOf(byte(address), byte(control), plainLength(len(info)), info)
				for _, initiator := range bools {
					f, e := basic.Decode(s, initiator, 31)
					if e != api.OK {
						continue
					}
					n++
					if again, e := basic.Encode(f, initiator, 31); again != "\xf9"+s+"\xf9" || e != api.OK {
						t.Fatalf("%X is decoded %#v, and encoded %X, %v", s, f, again, e)
					}
				}
			}
		}
	}
	// Of 127 addresses and both sides: 180 control octets that may be either, and 4 of commands or 4 of responses; with information 132, twice.
	if want := 127 * 2 * (184 + 2*132); n != want {
		t.Errorf("%d bodies are decoded, not %d", n, want)
	}
	for _, size := range []int{126, 127, 128} {
		for _, length := range []string{plainLength(size), plainTwo(size)} {
			s := bodyOf(0x07, 0x00, length, mixed(size))
			f, e := basic.Decode(s, true, 128)
			if e != api.OK {
				continue
			}
			if again, e := basic.Encode(f, true, 128); again != "\xf9"+s+"\xf9" || e != api.OK {
				t.Errorf("%X is decoded %#v, and encoded %X, %v", s, f, again, e)
			}
		}
	}
}

// turn turns the bits of pattern in s, its lowest at start (a byte's lowest bit is its first); false, if s does not have them all.
func turn(s string, start, pattern int) (string, bool) {
	b := []byte(s)
	for i := range 8 {
		if pattern>>i&1 == 0 {
			continue
		}
		at := start + i
		if at >= 8*len(b) {
			return "", false
		}
		b[at/8] ^= 1 << (at % 8)
	}
	return string(b), true
}

// P4.5: turned bits within eight side by side, wherever they begin: the body is never decoded as the same frame, and, if it has as many bytes and is of a kind with the same check, it is found by it.
func TestTurned(t *testing.T) {
	for _, f := range []api.Frame{
		{Command: true, Kind: api.SABM, PF: true}, {DLCI: 63, Kind: api.UA, PF: true}, {DLCI: 62, Command: true, Kind: api.DISC}, {DLCI: 1, Kind: api.DM},
		{DLCI: 1, Kind: api.RR, NR: 7}, {DLCI: 33, Command: true, Kind: api.RNR, PF: true, NR: 5}, {DLCI: 2, Kind: api.REJ, NR: 1},
		{DLCI: 7, Command: true, Kind: api.I, NS: 7, NR: 3, Info: "\xf9\xf9"}, {DLCI: 7, Command: true, Kind: api.I, Info: mixed(127)}, {DLCI: 7, Command: true, Kind: api.UI, Info: mixed(128)},
		{DLCI: 2, Command: true, Kind: api.UIH, Info: "abc"}, {DLCI: 2, Command: true, Kind: api.UIH}, {DLCI: 2, Kind: api.UIH, Info: mixed(128)},
	} {
		s := body(t, f, true)
		for start := range 8 * len(s) {
			for pattern := 1; pattern < 256; pattern++ {
				u, fits := turn(s, start, pattern)
				if !fits {
					continue
				}
				g, e := basic.Decode(u, true, 128)
				if e == api.OK && g == f {
					t.Fatalf("%#v: bits %08b from %d on are not seen", f, pattern, start)
				}
				tryTurned(t, f, s, u, start, e)
			}
		}
	}
}

// tryTurned: where the turned bits lie in the information or the check alone, the check tells it; but of an UIH's information, whose bits it is not of.
func tryTurned(t *testing.T, f api.Frame, s, u string, start int, e api.Errno) {
	t.Helper()
	infoAt, checkAt := 8*(len(s)-1-len(f.Info)), 8*(len(s)-1)
	if start < infoAt {
		return
	}
	want := api.ErrFCS
	if f.Kind == api.UIH && u[len(s)-1] == s[len(s)-1] && start < checkAt {
		want = api.OK
	}
	if e != want {
		t.Fatalf("%#v: %X turned to %X: %v, not %v", f, s, u, e, want)
	}
}

// P4.2: all that may come ends in an answer, whatever it is; it is the one that the promise tells.
func TestDecodeAnything(t *testing.T) {
	says := controls()
	for n := range 400 {
		s := mixed(n)
		for cut := range min(n, 8) {
			tryDecode(t, s[cut:], n%2 == 0, n-100, says)
			tryDecode(t, "\x07"+s[cut:], n%2 == 0, 128, says)
			tryDecode(t, "\x07\xef"+s[cut:], n%2 == 0, 128, says)
		}
	}
}

// An answer hangs on the call's arguments alone: not on what was asked before.
func TestNothingIsKept(t *testing.T) {
	for range 3 {
		if s, e := basic.Encode(api.Frame{Command: true, Kind: api.UA}, true, 31); s != "" || e != api.ErrArg {
			t.Errorf("UA, a command: %X, %v", s, e)
		}
		if s, e := basic.Encode(api.Frame{Command: true, Kind: api.SABM, PF: true}, true, 31); s != "\xf9\x03\x3f\x01\x1c\xf9" || e != api.OK {
			t.Errorf("SABM: %X, %v", s, e)
		}
		wantDecode(t, "\x03\x3f\x01\x1d", true, 31, api.ErrFCS)
		if f, e := basic.Decode("\x03\x3f\x01\x1c", true, 31); f != (api.Frame{Command: true, Kind: api.SABM, PF: true}) || e != api.OK {
			t.Errorf("SABM: %#v, %v", f, e)
		}
		if basic.Room(129) != 128 || basic.Room(-1) != 0 {
			t.Error("Room: another answer when asked again")
		}
	}
}
