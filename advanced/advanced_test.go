package advanced_test

import (
	"math"
	"strings"
	"testing"
	"unsafe"

	"partyline/advanced"
	"partyline/api"
	"partyline/ea"
	"partyline/fcs"
	"partyline/field"
)

var (
	bools = []bool{false, true}
	// sizes of information: the edges that the chapter names, and those beside.
	sizes = []int{0, 1, 2, 30, 31, 32, 126, 127, 128, 129, 130, 255, 256, 300}
	// n1s are limits below 0, 0, 128, above, and between.
	n1s = []int{math.MinInt, math.MinInt32, -129, -128, -127, -1, 0, 1, 2, 31, 126, 127, 128, 129, 130, 255, 256, 257, 1000, math.MaxInt32, 1 << 32, 1<<32 + 5, math.MaxInt - 1, math.MaxInt}
	// octets are those that may not stand as they are, those that stand for them behind a 7D, and some beside.
	octets = []byte{0x7E, 0x7D, 0x5E, 0x5D, 0x00, 0x41, 0x7C, 0x7F, 0x5C, 0x5F, 0xFF, 0xF9}
)

var escapes = strings.NewReplacer("\x7e", "\x7d\x5e", "\x7d", "\x7d\x5d")

// plainWritten writes octets as the chapter's words say it.
func plainWritten(s string) string { return escapes.Replace(s) }

// plainRead reads octets that are written; false, if there are none that are written so.
func plainRead(s string) (string, bool) {
	parts := strings.Split(s, "\x7d")
	for i := range parts {
		if i == 0 {
			continue
		}
		switch {
		case strings.HasPrefix(parts[i], "\x5e"):
			parts[i] = "\x7e" + parts[i][1:]
		case strings.HasPrefix(parts[i], "\x5d"):
			parts[i] = "\x7d" + parts[i][1:]
		default:
			return "", false
		}
	}
	if strings.Contains(s, "\x7e") {
		return "", false
	}
	return strings.Join(parts, ""), true
}

// plainLimit is what n1 counts as.
func plainLimit(n1 int) int {
	if n1 < 0 {
		return 0
	}
	if n1 > 128 {
		return 128
	}
	return n1
}

// plainMay asks whether a frame may be.
func plainMay(f api.Frame) bool {
	_, e := field.Put(f.Kind, f.PF, f.NS, f.NR)
	return f.DLCI <= 63 && e == api.OK && field.May(f.Kind, f.Command) && (len(f.Info) == 0 || field.Carries(f.Kind))
}

// innerOf puts an address, a control octet and information together, with their check behind.
func innerOf(address, control byte, info string) string {
	head := string([]byte{address, control})
	sum := fcs.Sum(head + info)
	if control == 0xEF || control == 0xFF {
		sum = fcs.Sum(head)
	}
	return head + info + string([]byte{sum})
}

// writtenOf is the same, written.
func writtenOf(address, control byte, info string) string {
	return plainWritten(innerOf(address, control, info))
}

// plainEncode is P5.1, as its words say it.
func plainEncode(f api.Frame, initiator bool, n1 int) (string, api.Errno) {
	if !plainMay(f) {
		return "", api.ErrArg
	}
	if len(f.Info) > plainLimit(n1) {
		return "", api.ErrLimit
	}
	cr := f.Command && initiator || !f.Command && !initiator
	control, _ := field.Put(f.Kind, f.PF, f.NS, f.NR)
	return "\x7e" + writtenOf(ea.Address(f.DLCI, cr), control, f.Info) + "\x7e", api.OK
}

// plainDecode is P5.2, as its words say it.
func plainDecode(s string, initiator bool, n1 int) (api.Frame, api.Errno) {
	inner, ok := plainRead(s)
	if !ok || len(inner) < 3 || inner[0]%2 == 0 {
		return api.Frame{}, api.ErrFrame
	}
	dlci, cr, _ := ea.Split(inner[0])
	kind, pf, ns, nr, e := field.Get(inner[1])
	if e != api.OK {
		return api.Frame{}, api.ErrField
	}
	info := inner[2 : len(inner)-1]
	if innerOf(inner[0], inner[1], info) != inner {
		return api.Frame{}, api.ErrFCS
	}
	f := api.Frame{DLCI: dlci, Command: cr && initiator || !cr && !initiator, Kind: kind, PF: pf, NS: ns, NR: nr, Info: info}
	if !plainMay(f) {
		return api.Frame{}, api.ErrFrame
	}
	if len(info) > plainLimit(n1) {
		return api.Frame{}, api.ErrLimit
	}
	return f, api.OK
}

// mixed is n bytes of all kinds, 7E and 7D among them, the same ones at each call.
func mixed(n int) string {
	b := make([]byte, n)
	x := uint32(n) + 1
	for i := range b {
		x = x*1664525 + 1013904223
		b[i] = byte(x >> 24)
		switch i % 7 {
		case 3:
			b[i] = 0x7E
		case 5:
			b[i] = 0x7D
		}
	}
	return string(b)
}

// wrong is the same octets with another check, written.
func wrong(inner string) string {
	last := len(inner) - 1
	return plainWritten(inner[:last] + string([]byte{^inner[last]}))
}

// framesOf are the frames of all control octets, without channel, information and what they are.
func framesOf() []api.Frame {
	var out []api.Frame
	for c := range 256 {
		if kind, pf, ns, nr, e := field.Get(byte(c)); e == api.OK {
			out = append(out, api.Frame{Kind: kind, PF: pf, NS: ns, NR: nr})
		}
	}
	return out
}

// between is what Encode answers, without its flags.
func between(t *testing.T, f api.Frame, initiator bool) string {
	t.Helper()
	s, e := advanced.Encode(f, initiator, 128)
	if e != api.OK || len(s) < 5 || s[0] != 0x7E || s[len(s)-1] != 0x7E {
		t.Fatalf("Encode(%#v, %t, 128): %X, %v", f, initiator, s, e)
	}
	return s[1 : len(s)-1]
}

func tryEncode(t *testing.T, f api.Frame, initiator bool, n1 int) {
	t.Helper()
	want, wantE := plainEncode(f, initiator, n1)
	if s, e := advanced.Encode(f, initiator, n1); s != want || e != wantE {
		t.Fatalf("Encode(%#v, %t, %d): %X, %v, not %X, %v", f, initiator, n1, s, e, want, wantE)
	}
}

func tryDecode(t *testing.T, s string, initiator bool, n1 int) {
	t.Helper()
	want, wantE := plainDecode(s, initiator, n1)
	if f, e := advanced.Decode(s, initiator, n1); f != want || e != wantE {
		t.Fatalf("Decode(%X, %t, %d): %#v, %v, not %#v, %v", s, initiator, n1, f, e, want, wantE)
	}
}

// wantDecode holds what Decode answers against an error; with one there is no frame.
func wantDecode(t *testing.T, s string, initiator bool, n1 int, want api.Errno) {
	t.Helper()
	f, e := advanced.Decode(s, initiator, n1)
	if e != want || e != api.OK && f != (api.Frame{}) {
		t.Errorf("Decode(%.60X, %t, %d): %#v, %v, not %v", s, initiator, n1, f, e, want)
	}
}

// byHand are frames, who sends them, and their bytes between the flags.
var byHand = []struct {
	f         api.Frame
	initiator bool
	s         string
}{
	{api.Frame{DLCI: 1, Command: true, Kind: api.SABM, PF: true}, true, "\x07\x3f\x89"},
	{api.Frame{Command: true, Kind: api.SABM, PF: true}, true, "\x03\x3f\xfc"},
	{api.Frame{Kind: api.UA, PF: true}, false, "\x03\x73\x85"},
	{api.Frame{Command: true, Kind: api.DISC, PF: true}, true, "\x03\x53\xbd"},
	{api.Frame{DLCI: 1, Command: true, Kind: api.UIH}, true, "\x07\xef\x05"},
	{api.Frame{DLCI: 1, Command: true, Kind: api.UIH, Info: "abc"}, true, "\x07\xef" + "abc" + "\x05"},
	{api.Frame{DLCI: 1, Command: true, Kind: api.UI, Info: "abc"}, true, "\x07\x03" + "abc" + "\x1a"},
	// 7E and 7D in the information, and 5E and 5D, that stand as they are.
	{api.Frame{DLCI: 2, Command: true, Kind: api.I, NS: 3, NR: 4, Info: "a\x7e\x7db"}, true, "\x0b\x86" + "a\x7d\x5e\x7d\x5db" + "\x1b"},
	{api.Frame{DLCI: 1, Command: true, Kind: api.UIH, Info: "\x5e\x5d\x7e"}, true, "\x07\xef" + "\x5e\x5d\x7d\x5e" + "\x05"},
	// The address 7D: of the channel 31, C/R being 0.
	{api.Frame{DLCI: 31, Kind: api.RR}, true, "\x7d\x5d\x01\x1c"},
	{api.Frame{DLCI: 31, Command: true, Kind: api.SABM}, false, "\x7d\x5d\x2f\xce"},
	{api.Frame{DLCI: 31, Kind: api.UA}, true, "\x7d\x5d\x63\xb7"},
	// The control octet 7E: of an I.
	{api.Frame{DLCI: 1, Command: true, Kind: api.I, PF: true, NS: 7, NR: 3}, true, "\x07\x7d\x5e\x68"},
	{api.Frame{DLCI: 1, Command: true, Kind: api.I, PF: true, NS: 7, NR: 3, Info: "\x7d"}, true, "\x07\x7d\x5e\x7d\x5d\xba"},
	// The check 7E, and 7D.
	{api.Frame{DLCI: 5, Kind: api.DM, PF: true}, true, "\x15\x1f\x7d\x5e"},
	{api.Frame{DLCI: 1, Command: true, Kind: api.UI, Info: "\x01"}, true, "\x07\x03\x01\x7d\x5e"},
	{api.Frame{DLCI: 19, Kind: api.UIH, PF: true, Info: "z"}, true, "\x4d\xff" + "z" + "\x7d\x5d"},
	{api.Frame{DLCI: 30, Command: true, Kind: api.SABM, PF: true}, true, "\x7b\x3f\x7d\x5d"},
	{api.Frame{DLCI: 1, Command: true, Kind: api.UI, Info: "\x83"}, true, "\x07\x03\x83\x7d\x5d"},
	// The channels 62, which has all its frames here, and 63.
	{api.Frame{DLCI: 62, Kind: api.UA}, true, "\xf9\x63\x6a"},
	{api.Frame{DLCI: 62, Command: true, Kind: api.SABM, PF: true}, false, "\xf9\x3f\x0f"},
	{api.Frame{DLCI: 62, Command: true, Kind: api.SABM, PF: true}, true, "\xfb\x3f\xd5"},
	{api.Frame{DLCI: 63, Kind: api.DM, PF: true}, false, "\xff\x1f\x98"},
}

// P5.1: each channel's number, each kind and what is none, with and without information, commands and responses of both sides.
func TestEncodeChannels(t *testing.T) {
	for dlci := range 256 {
		for kind := range 256 {
			for _, command := range bools {
				for _, initiator := range bools {
					for _, info := range []string{"", "\x7e"} {
						tryEncode(t, api.Frame{DLCI: uint8(dlci), Command: command, Kind: uint8(kind), PF: true, Info: info}, initiator, 31)
					}
				}
			}
		}
	}
}

// P5.1: all numbers that a kind may have, and those one past.
func TestEncodeNumbers(t *testing.T) {
	numbers := []uint8{0, 1, 2, 3, 4, 5, 6, 7, 8, 9, 16, 128, 255}
	for kind := range uint8(12) {
		for _, ns := range numbers {
			for _, nr := range numbers {
				for _, pf := range bools {
					for _, command := range bools {
						tryEncode(t, api.Frame{DLCI: 9, Command: command, Kind: kind, PF: pf, NS: ns, NR: nr}, true, 31)
					}
				}
			}
		}
	}
}

// P5.1: information of all sizes round the edges, and each n1, of each kind.
func TestEncodeSizes(t *testing.T) {
	for kind := range uint8(12) {
		for _, n := range sizes {
			for _, n1 := range n1s {
				for _, command := range bools {
					tryEncode(t, api.Frame{DLCI: 1, Command: command, Kind: kind, Info: mixed(n)}, n%2 == 0, n1)
				}
			}
		}
	}
	for n := range 140 {
		tryEncode(t, api.Frame{DLCI: 63, Command: true, Kind: api.I, NS: 3, NR: 4, Info: mixed(n)}, true, 128)
		tryEncode(t, api.Frame{DLCI: 63, Command: true, Kind: api.UIH, Info: mixed(n)}, true, n)
		tryEncode(t, api.Frame{DLCI: 63, Command: true, Kind: api.UI, Info: mixed(n)}, true, n-1)
	}
}

// P5.1: the limit counts the information's bytes, not the octets in which they are written; it is at most 128, and may be none.
func TestEncodeLimit(t *testing.T) {
	for _, n := range []int{0, 1, 2, 31, 127, 128, 129} {
		for _, info := range []string{strings.Repeat("\x7e", n), strings.Repeat("\x7d", n), strings.Repeat("a", n)} {
			for _, n1 := range n1s {
				want := api.OK
				if n > plainLimit(n1) {
					want = api.ErrLimit
				}
				s, e := advanced.Encode(api.Frame{DLCI: 1, Command: true, Kind: api.UI, Info: info}, true, n1)
				if e != want || (s == "") != (e != api.OK) {
					t.Errorf("%d bytes, n1 %d: %X, %v, not %v", n, n1, s, e, want)
				}
			}
		}
	}
}

// P5.1: the frames by hand: the chapter's example, and 7E and 7D at each place.
func TestEncodeByHand(t *testing.T) {
	for _, x := range byHand {
		if s, e := advanced.Encode(x.f, x.initiator, 31); s != "\x7e"+x.s+"\x7e" || e != api.OK {
			t.Errorf("Encode(%#v): %X, %v, not %X", x.f, s, e, x.s)
		}
	}
}

// P5.1: C/R is 1 of a command of the initiator, and of a response of the other side.
func TestEncodeSides(t *testing.T) {
	for _, x := range []struct {
		command, initiator bool
		address            byte
	}{
		{true, true, 0x17}, {false, false, 0x17}, {true, false, 0x15}, {false, true, 0x15},
	} {
		s, e := advanced.Encode(api.Frame{DLCI: 5, Command: x.command, Kind: api.RR}, x.initiator, 31)
		if e != api.OK || len(s) < 2 || s[1] != x.address {
			t.Errorf("%v: %X, %v", x, s, e)
		}
	}
}

// P5.1: the greatest channel, and what is beyond; 62 has all frames, whatever C/R is.
func TestEncodeEdgeChannels(t *testing.T) {
	for _, x := range []struct {
		dlci uint8
		want api.Errno
	}{
		{0, api.OK}, {1, api.OK}, {31, api.OK}, {61, api.OK}, {62, api.OK}, {63, api.OK}, {64, api.ErrArg}, {65, api.ErrArg}, {126, api.ErrArg}, {127, api.ErrArg}, {128, api.ErrArg}, {192, api.ErrArg}, {255, api.ErrArg},
	} {
		for _, command := range bools {
			for _, initiator := range bools {
				s, e := advanced.Encode(api.Frame{DLCI: x.dlci, Command: command, Kind: api.UI, Info: "a"}, initiator, 31)
				if e != x.want || (s == "") != (e != api.OK) {
					t.Errorf("%d, %t, %t: %X, %v", x.dlci, command, initiator, s, e)
				}
			}
		}
	}
}

// P5.1: what may not be is told ahead of what is too long.
func TestEncodeOrder(t *testing.T) {
	long := mixed(200)
	for _, f := range []api.Frame{
		{DLCI: 64, Command: true, Kind: api.UIH, Info: long}, {DLCI: 255, Kind: api.UI, Info: long}, {DLCI: 1, Command: true, Kind: 0, Info: long}, {DLCI: 1, Command: true, Kind: 11, Info: long}, {DLCI: 1, Kind: 255, Info: long},
		{DLCI: 1, Command: true, Kind: api.I, NS: 8, Info: long}, {DLCI: 1, Command: true, Kind: api.I, NR: 8, Info: long}, {DLCI: 1, Command: true, Kind: api.UIH, NR: 1, Info: long}, {DLCI: 1, Command: true, Kind: api.UI, NS: 1, Info: long},
		{DLCI: 1, Command: true, Kind: api.UA, Info: long}, {DLCI: 1, Command: true, Kind: api.DM, Info: long}, {DLCI: 1, Kind: api.SABM, Info: long}, {DLCI: 1, Kind: api.DISC, Info: long},
		{DLCI: 1, Command: true, Kind: api.SABM, Info: long}, {DLCI: 1, Kind: api.UA, Info: long}, {DLCI: 1, Kind: api.DM, Info: long}, {DLCI: 1, Command: true, Kind: api.DISC, Info: long},
		{DLCI: 1, Command: true, Kind: api.RR, Info: long}, {DLCI: 1, Kind: api.RNR, Info: long}, {DLCI: 1, Kind: api.REJ, NR: 3, Info: long},
	} {
		for _, n1 := range n1s {
			if s, e := advanced.Encode(f, true, n1); s != "" || e != api.ErrArg {
				t.Errorf("Encode(%#v, true, %d): %X, %v", f, n1, s, e)
			}
		}
	}
}

// P5.1: information far beyond the limit, whose low bits would be a short one's.
func TestEncodeHuge(t *testing.T) {
	for _, n := range []int{256, 32768, 65536, 65537, 1 << 20} {
		for _, n1 := range []int{0, 128, math.MaxInt} {
			s, e := advanced.Encode(api.Frame{DLCI: 1, Command: true, Kind: api.UIH, Info: strings.Repeat("\x7e", n)}, true, n1)
			if s != "" || e != api.ErrLimit {
				t.Errorf("%d bytes, n1 %d: %d bytes, %v", n, n1, len(s), e)
			}
		}
	}
}

// P5.2: each address and each control octet, with and without information, with the right check and a wrong one, of both sides.
func TestDecodeHeads(t *testing.T) {
	for address := range 256 {
		for control := range 256 {
			for _, info := range []string{"", "a", "\x7e"} {
				inner := innerOf(byte(address), byte(control), info)
				for _, initiator := range bools {
					tryDecode(t, plainWritten(inner), initiator, 31)
					tryDecode(t, wrong(inner), initiator, 31)
				}
				tryDecode(t, plainWritten(inner), true, 0)
			}
		}
	}
}

// P5.2: information of all sizes round the edges, and each n1.
func TestDecodeSizes(t *testing.T) {
	for _, control := range []byte{0xEF, 0xFF, 0x03, 0x00, 0x7E, 0xA4, 0x2F, 0x63, 0x01, 0x0D, 0x7D} {
		for _, n := range append([]int{16384, 70000}, sizes...) {
			s := writtenOf(0x07, control, mixed(n))
			for _, n1 := range n1s {
				tryDecode(t, s, true, n1)
			}
			tryDecode(t, s, false, 128)
		}
	}
}

// P5.2: the limit counts the information's bytes, not the octets in which they are written; it is at most 128, and may be none.
func TestDecodeLimit(t *testing.T) {
	for _, n := range []int{0, 1, 2, 31, 127, 128, 129} {
		for _, info := range []string{strings.Repeat("\x7e", n), strings.Repeat("\x7d", n), strings.Repeat("a", n)} {
			for _, n1 := range n1s {
				want := api.OK
				if n > plainLimit(n1) {
					want = api.ErrLimit
				}
				wantDecode(t, writtenOf(0x07, 0xEF, info), true, n1, want)
				wantDecode(t, writtenOf(0x07, 0x00, info), true, n1, want)
			}
		}
	}
}

// P5.2: the frames by hand.
func TestDecodeByHand(t *testing.T) {
	for _, x := range byHand {
		if f, e := advanced.Decode(x.s, x.initiator, 31); f != x.f || e != api.OK {
			t.Errorf("Decode(%X, %t): %#v, %v, not %#v", x.s, x.initiator, f, e, x.f)
		}
	}
}

// P5.2: what says a command, if the initiator sends it, says a response, if the other side does.
func TestDecodeSides(t *testing.T) {
	s := writtenOf(0x17, 0x01, "")
	for _, initiator := range bools {
		want := api.Frame{DLCI: 5, Command: initiator, Kind: api.RR}
		if f, e := advanced.Decode(s, initiator, 31); f != want || e != api.OK {
			t.Errorf("initiator %t: %#v, %v", initiator, f, e)
		}
	}
	wantDecode(t, "\x07\x3f\x89", false, 31, api.ErrFrame)
	wantDecode(t, "\x03\x73\x85", true, 31, api.ErrFrame)
}

// P5.2: fewer than three octets, however many bytes they are written in; and three, of which the last is no check.
func TestDecodeShort(t *testing.T) {
	wantDecode(t, "", true, 31, api.ErrFrame)
	for a := range 256 {
		wantDecode(t, string([]byte{byte(a)}), true, 31, api.ErrFrame)
		for b := range 256 {
			s := string([]byte{byte(a), byte(b)})
			wantDecode(t, s, true, 31, api.ErrFrame)
			wantDecode(t, plainWritten(s), true, 31, api.ErrFrame)
			tryDecode(t, plainWritten(s)+"\x5e", true, 31)
			tryDecode(t, "\x03"+s, true, 31)
			tryDecode(t, s+"\x00", false, 31)
		}
	}
	for _, s := range []string{"\x7d\x5d\x01", "\x07\x7d\x5e", "\x7d\x5d\x7d\x5e", "\x7d\x5d\x7d\x5d", "\x07\x2f"} {
		wantDecode(t, s, true, 31, api.ErrFrame)
		wantDecode(t, s, false, 31, api.ErrFrame)
	}
}

// P5.2: the octet 7E is no address, the octet 7D is one, and no control octet.
func TestDecodeEscapedHead(t *testing.T) {
	for _, x := range []struct {
		s    string
		want api.Errno
	}{
		{writtenOf(0x7E, 0x01, ""), api.ErrFrame}, {writtenOf(0x7E, 0x7D, "abc"), api.ErrFrame}, {writtenOf(0x7D, 0x01, ""), api.OK}, {writtenOf(0x7D, 0x7E, "\x7d\x7e"), api.OK},
		{writtenOf(0x07, 0x7D, ""), api.ErrField}, {writtenOf(0x7D, 0x7D, "\x7d"), api.ErrField}, {writtenOf(0x07, 0x7E, ""), api.OK},
	} {
		wantDecode(t, x.s, true, 31, x.want)
	}
}

// P5.2: what is no octets, written, is no frame, wherever the fault stands, and whatever else is right or wrong.
func TestDecodeNotWritten(t *testing.T) {
	for _, x := range []string{between(t, api.Frame{DLCI: 2, Command: true, Kind: api.I, Info: "a\x7e\x7db"}, true), "\x07\x0d\x00", "\x06\x3f\x00", "\x07\x3f\x00", writtenOf(0x07, 0x63, mixed(200))} {
		for at := range len(x) + 1 {
			wantDecode(t, x[:at]+"\x7e"+x[at:], true, 31, api.ErrFrame)
			for _, b := range octets {
				if b != 0x5E && b != 0x5D {
					wantDecode(t, x[:at]+"\x7d"+string([]byte{b})+x[at:], true, 31, api.ErrFrame)
				}
			}
		}
		wantDecode(t, x+"\x7d", true, 31, api.ErrFrame)
		wantDecode(t, "\x7e"+x+"\x7e", true, 31, api.ErrFrame)
	}
}

// P5.2: a frame that is cut short, or has a byte more, is told as the promise says.
func TestDecodeCut(t *testing.T) {
	for _, n := range []int{0, 1, 2, 31, 127, 128} {
		for _, kind := range []uint8{api.UIH, api.UI, api.I} {
			s := between(t, api.Frame{DLCI: 31, Command: true, Kind: kind, PF: true, NS: 0, Info: mixed(n)}, false)
			for cut := range len(s) {
				tryDecode(t, s[:cut], false, 128)
				tryDecode(t, s[cut:], false, 128)
			}
			for b := range 256 {
				more := string([]byte{byte(b)})
				tryDecode(t, s+more, false, 128)
				tryDecode(t, more+s, false, 128)
			}
			wantDecode(t, s, false, 128, api.OK)
		}
	}
}

// P5.2: of several faults the first one in the promise's row is told.
func TestDecodeOrder(t *testing.T) {
	long := mixed(200)
	bad := func(address, control byte, info string) string { return wrong(innerOf(address, control, info)) }
	for _, x := range []struct {
		s    string
		want api.Errno
	}{
		// No octets, written; too few; no address: ahead of a control octet that is none, and all behind.
		{bad(0x07, 0x0D, long) + "\x7d", api.ErrFrame}, {"\x07\x0d", api.ErrFrame}, {bad(0x06, 0x0D, long), api.ErrFrame}, {bad(0x00, 0x0D, ""), api.ErrFrame}, {bad(0x7E, 0x7D, long), api.ErrFrame},
		// A control octet that is none, ahead of a wrong check, and of what is too long.
		{writtenOf(0x07, 0x0D, long), api.ErrField}, {bad(0x07, 0x0D, long), api.ErrField}, {bad(0x05, 0x6F, ""), api.ErrField}, {bad(0x07, 0x7D, "a"), api.ErrField},
		// A wrong check, ahead of what may not be, and of what is too long: UA, a command; SABM, a response; SABM and RR with information.
		{bad(0x07, 0x63, long), api.ErrFCS}, {bad(0x05, 0x2F, ""), api.ErrFCS}, {bad(0x07, 0x2F, "a"), api.ErrFCS}, {bad(0x05, 0x01, long), api.ErrFCS}, {bad(0x07, 0xEF, long), api.ErrFCS}, {bad(0x07, 0x03, long), api.ErrFCS}, {bad(0x07, 0x00, long), api.ErrFCS},
		// What may not be, ahead of what is too long.
		{writtenOf(0x07, 0x63, ""), api.ErrFrame}, {writtenOf(0x07, 0x0F, ""), api.ErrFrame}, {writtenOf(0x05, 0x2F, ""), api.ErrFrame}, {writtenOf(0x05, 0x43, ""), api.ErrFrame},
		{writtenOf(0x07, 0x2F, long), api.ErrFrame}, {writtenOf(0x05, 0x63, long), api.ErrFrame}, {writtenOf(0x05, 0x63, "a"), api.ErrFrame}, {writtenOf(0x07, 0x01, long), api.ErrFrame}, {writtenOf(0x07, 0x05, "a"), api.ErrFrame}, {writtenOf(0x05, 0x09, "\x7e"), api.ErrFrame},
		// Too long alone.
		{writtenOf(0x07, 0xEF, long), api.ErrLimit}, {writtenOf(0x05, 0x03, long), api.ErrLimit}, {writtenOf(0x07, 0x00, long), api.ErrLimit}, {writtenOf(0x07, 0x00, mixed(32)), api.ErrLimit}, {writtenOf(0x07, 0x00, mixed(31)), api.OK},
	} {
		wantDecode(t, x.s, true, 31, x.want)
	}
}

// P5.2: all that may come ends in an answer, whatever it is; it is the one that the promise tells.
func TestDecodeAnything(t *testing.T) {
	for n := range 400 {
		s := mixed(n)
		for cut := range min(n, 8) {
			for _, ahead := range []string{"", "\x07", "\x07\xef", "\x07\x00"} {
				tryDecode(t, ahead+s[cut:], n%2 == 0, n-100)
				tryDecode(t, ahead+plainWritten(s[cut:]), n%2 == 0, 128)
			}
		}
	}
}

// P5.1 and P5.2: the check of an UIH is of the address and the control octet alone, of all others of the information, too.
func TestWhatIsChecked(t *testing.T) {
	for _, pf := range bools {
		for _, n := range []int{1, 31, 127, 128} {
			for _, kind := range []uint8{api.UIH, api.UI, api.I} {
				f := api.Frame{DLCI: 3, Command: true, Kind: kind, PF: pf, Info: strings.Repeat("\x55", n)}
				s := between(t, f, true)
				other := strings.Repeat("\x55", n-1) + "\x56"
				changed := s[:2] + other + s[2+n:]
				g, e := advanced.Decode(changed, true, 128)
				if kind == api.UIH {
					f.Info = other
					if g != f || e != api.OK {
						t.Errorf("UIH with other information: %#v, %v", g, e)
					}
				} else if e != api.ErrFCS || g != (api.Frame{}) {
					t.Errorf("kind %d with other information: %#v, %v", kind, g, e)
				}
			}
		}
	}
	// What would be right, if an UIH's check were of its information, too, or an UI's were not.
	wantDecode(t, "\x07\xef"+"abc"+string([]byte{fcs.Sum("\x07\xefabc")}), true, 31, api.ErrFCS)
	wantDecode(t, "\x07\x03"+"abc"+string([]byte{fcs.Sum("\x07\x03")}), true, 31, api.ErrFCS)
}

// texts are what is written and read: each octet, each two, and each four of those that matter; long ones.
func texts() []string {
	out := []string{"", "partyline", "h\u00e9llo \u20ac", strings.Repeat("\x7e", 300), strings.Repeat("\x7d", 301), strings.Repeat("\x7d\x5e", 100), strings.Repeat("\x7d\x5d", 100), strings.Repeat("\x00", 40), strings.Repeat("\xff", 40)}
	for a := range 256 {
		out = append(out, string([]byte{byte(a)}))
		for b := range 256 {
			out = append(out, string([]byte{byte(a), byte(b)}))
		}
	}
	for _, a := range octets {
		for _, b := range octets {
			for _, c := range octets {
				out = append(out, string([]byte{a, b, c}))
				for _, d := range octets {
					out = append(out, string([]byte{a, b, c, d}))
				}
			}
		}
	}
	for n := 5; n < 300; n++ {
		out = append(out, mixed(n))
	}
	return append(out, mixed(4096), mixed(70000))
}

// P5.3: octets, written, without flags.
func TestStuff(t *testing.T) {
	for _, x := range []struct{ s, want string }{
		{"\x7e\x01\x7d", "\x7d\x5e\x01\x7d\x5d"}, {"", ""}, {"\x7e", "\x7d\x5e"}, {"\x7d", "\x7d\x5d"}, {"\x5e\x5d", "\x5e\x5d"}, {"\x7d\x5e", "\x7d\x5d\x5e"}, {"\x7c\x7f\xfe\xfd", "\x7c\x7f\xfe\xfd"},
	} {
		if s := advanced.Stuff(x.s); s != x.want {
			t.Errorf("Stuff(%X): %X, not %X", x.s, s, x.want)
		}
	}
	for _, s := range texts() {
		if w, want := advanced.Stuff(s), plainWritten(s); w != want {
			t.Fatalf("Stuff(%.40X): %.80X, not %.80X", s, w, want)
		}
	}
}

// P5.3: the octets that are written so.
func TestUnstuff(t *testing.T) {
	for _, x := range []struct{ s, want string }{
		{"", ""}, {"\x01", "\x01"}, {"\x7d\x5e", "\x7e"}, {"\x7d\x5d", "\x7d"}, {"\x7d\x5e\x01\x7d\x5d", "\x7e\x01\x7d"}, {"\x5e\x5d", "\x5e\x5d"}, {"\x7d\x5d\x5e", "\x7d\x5e"}, {"\x7d\x5d\x7d\x5d", "\x7d\x7d"},
	} {
		if s, ok := advanced.Unstuff(x.s); s != x.want || !ok {
			t.Errorf("Unstuff(%X): %X, %t, not %X", x.s, s, ok, x.want)
		}
	}
	for _, s := range texts() {
		want, wantOK := plainRead(s)
		if r, ok := advanced.Unstuff(s); r != want || ok != wantOK {
			t.Fatalf("Unstuff(%.80X): %.40X, %t, not %.40X, %t", s, r, ok, want, wantOK)
		}
	}
}

// P5.3: what is written so of no octets: a 7D at the end, a 7D with another one behind it than 5E and 5D, a 7E.
func TestUnstuffWrong(t *testing.T) {
	wrongs := []string{"\x7d", "\x7e", "\x7d\x41", "\x7d\x7d", "\x7d\x7e", "\x7d\x7d\x5d", "\x7d\x7e\x5e", "\x7d\xde", "\x7d\xdd"}
	for b := range 256 {
		if b != 0x5E && b != 0x5D {
			wrongs = append(wrongs, "\x7d"+string([]byte{byte(b)}))
		}
	}
	for _, s := range wrongs {
		for _, ahead := range []string{"", "a", "\x7d\x5e", "\x7d\x5d", mixed(0), plainWritten(mixed(300))} {
			if r, ok := advanced.Unstuff(ahead + s); ok || r != "" {
				t.Errorf("Unstuff(%.40X): %X, %t", ahead+s, r, ok)
			}
			if s == "\x7d" { // what stands behind might belong to it
				continue
			}
			if r, ok := advanced.Unstuff(ahead + s + "abc"); ok || r != "" {
				t.Errorf("Unstuff(%.40X): %X, %t", ahead+s+"abc", r, ok)
			}
		}
	}
}

// P5.3: what is written is read as it was, and what is read is written so: of all texts, just those that are written are read.
func TestStuffAndUnstuff(t *testing.T) {
	written := map[string]bool{}
	for _, s := range texts() {
		w := advanced.Stuff(s)
		written[w] = true
		if strings.Contains(w, "\x7e") {
			t.Fatalf("Stuff(%.40X) has a flag within: %.80X", s, w)
		}
		if r, ok := advanced.Unstuff(w); r != s || !ok {
			t.Fatalf("%.40X is written %.80X, which is read %.40X, %t", s, w, r, ok)
		}
		if r, ok := advanced.Unstuff(s); ok && advanced.Stuff(r) != s {
			t.Fatalf("%.40X is read %.40X, which is written %.40X", s, r, advanced.Stuff(r))
		}
	}
	// Whatever is written in at most four bytes of these is of at most four octets of these, which all are among the texts.
	for _, a := range octets {
		for _, b := range octets {
			for _, c := range octets {
				for _, d := range octets {
					s := string([]byte{a, b, c, d})
					for cut := range len(s) {
						if _, ok := advanced.Unstuff(s[cut:]); ok != written[s[cut:]] {
							t.Fatalf("Unstuff(%X): %t", s[cut:], ok)
						}
					}
				}
			}
		}
	}
}

// seen is a text whose bytes the test may look at, and change, behind the program's back.
func seen(s string) ([]byte, string) {
	b := []byte(s)
	return b, unsafe.String(unsafe.SliceData(b), len(b))
}

// apart asks whether two texts share no memory. (Those of one byte may share it, for nobody can change it.)
func apart(a, b string) bool {
	return len(a) < 2 || len(b) < 2 || unsafe.StringData(a) != unsafe.StringData(b)
}

// memoryTexts are those with and without octets that may not stand as they are.
func memoryTexts() []string {
	return []string{"a", "\x7e", "ab", strings.Repeat("x", 31), mixed(31), strings.Repeat("y", 127), mixed(127), strings.Repeat("z", 128), mixed(128)}
}

// P5.4: what Encode is handed is as it was, and what it answers has nothing of it.
func TestEncodeMemory(t *testing.T) {
	for _, x := range memoryTexts() {
		for _, kind := range []uint8{api.UIH, api.UI, api.I} {
			b, info := seen(x)
			f := api.Frame{DLCI: 1, Command: true, Kind: kind, Info: info}
			want, _ := plainEncode(api.Frame{DLCI: 1, Command: true, Kind: kind, Info: x}, true, 128)
			one, _ := advanced.Encode(f, true, 128)
			two, _ := advanced.Encode(f, true, 128)
			if string(b) != x {
				t.Fatalf("%.20X: the information has been changed", x)
			}
			if !apart(one, two) {
				t.Errorf("%.20X: two answers share their memory", x)
			}
			clear(b)
			if one != want || two != want {
				t.Errorf("%.20X: the answer changes with what was handed in", x)
			}
		}
	}
}

// P5.4: what Decode is handed is as it was, and the frame's information has nothing of it.
func TestDecodeMemory(t *testing.T) {
	for _, x := range memoryTexts() {
		for _, kind := range []uint8{api.UIH, api.UI, api.I} {
			was := between(t, api.Frame{DLCI: 1, Command: true, Kind: kind, Info: x}, true)
			b, s := seen(was)
			one, _ := advanced.Decode(s, true, 128)
			two, _ := advanced.Decode(s, true, 128)
			advanced.Decode(s, false, 0)
			if string(b) != was {
				t.Fatalf("%.20X: what was handed in has been changed", x)
			}
			if !apart(one.Info, two.Info) {
				t.Errorf("%.20X: two answers share their memory", x)
			}
			clear(b)
			if one.Info != x || two.Info != x {
				t.Errorf("%.20X: the answer changes with what was handed in", x)
			}
		}
	}
}

// P5.4: what Stuff and Unstuff are handed is as it was, and what they answer has nothing of it, also where it is the same octets.
func TestStuffMemory(t *testing.T) {
	read := func(s string) string { r, _ := advanced.Unstuff(s); return r }
	for _, x := range memoryTexts() {
		for _, way := range []struct {
			call    func(string) string
			is, was string
		}{{advanced.Stuff, plainWritten(x), x}, {read, x, plainWritten(x)}} {
			b, s := seen(way.was)
			one, two := way.call(s), way.call(s)
			if string(b) != way.was {
				t.Fatalf("%.20X: what was handed in has been changed", way.was)
			}
			if !apart(one, two) || !apart(one, s) {
				t.Errorf("%.20X: memory is shared", way.was)
			}
			clear(b)
			if one != way.is || two != way.is {
				t.Errorf("%.20X: the answer changes with what was handed in", way.was)
			}
		}
	}
}

// P5.5: what is encoded is decoded as it was, by the same side alone, and has no flag within.
func TestEncodedIsDecoded(t *testing.T) {
	n := 0
	for _, dlci := range []uint8{0, 1, 2, 30, 31, 61, 62, 63, 64} {
		for _, bare := range framesOf() {
			for _, size := range []int{0, 1, 126, 127, 128, 129} {
				for _, command := range bools {
					for _, initiator := range bools {
						f := bare
						f.DLCI, f.Command, f.Info = dlci, command, mixed(size)
						s, e := advanced.Encode(f, initiator, 128)
						if e != api.OK {
							continue
						}
						n++
						inside := s[1 : len(s)-1]
						if s[0] != 0x7E || s[len(s)-1] != 0x7E || strings.Contains(inside, "\x7e") {
							t.Fatalf("%#v: %X", f, s)
						}
						if g, e := advanced.Decode(inside, initiator, 128); g != f || e != api.OK {
							t.Fatalf("%#v is encoded %X, and decoded %#v, %v", f, s, g, e)
						}
						if g, e := advanced.Decode(inside, !initiator, 128); e == api.OK && g.Command == command {
							t.Fatalf("%#v is decoded as the other side's %#v", f, g)
						}
					}
				}
			}
		}
	}
	// Of I 128 control octets, of UIH and UI 2 each, with information of five sizes; of RR, RNR and REJ 16 each: all of them four ways; of SABM, UA, DM and DISC 2 each, two ways. Of eight channels.
	if want := (4*(5*(128+2+2)+3*16) + 2*4*2) * 8; n != want {
		t.Errorf("%d frames, not %d", n, want)
	}
}

// P5.5: what is decoded is encoded as it was.
func TestDecodedIsEncoded(t *testing.T) {
	n := 0
	for address := range 256 {
		for control := range 256 {
			for _, info := range []string{"", "a", "\x7e\x7d"} {
				s := writtenOf(byte(address), byte(control), info)
				for _, initiator := range bools {
					f, e := advanced.Decode(s, initiator, 31)
					if e != api.OK {
						continue
					}
					n++
					if again, e := advanced.Encode(f, initiator, 31); again != "\x7e"+s+"\x7e" || e != api.OK {
						t.Fatalf("%X is decoded %#v, and encoded %X, %v", s, f, again, e)
					}
				}
			}
		}
	}
	// Of 128 addresses and both sides: 180 control octets that may be either, and 4 of commands or 4 of responses; with information 132, twice.
	if want := 128 * 2 * (184 + 2*132); n != want {
		t.Errorf("%d are decoded, not %d", n, want)
	}
}

// turn is s with one bit turned.
func turn(s string, bit int) string {
	b := []byte(s)
	b[bit/8] ^= 1 << (bit % 8)
	return string(b)
}

// P5.5: a frame that is no UIH, of whose information one bit is turned, is told by its check; of an UIH it is decoded with that bit turned.
func TestTurnedBit(t *testing.T) {
	for _, bare := range framesOf() {
		for _, info := range []string{"a", "abc", "\x5e\x5d\x7c\x7f\x3e", mixed(31), mixed(128)} {
			f := bare
			f.DLCI, f.Command, f.Info = 1, true, info
			if !plainMay(f) || f.PF || f.NS%3 != 0 || f.NR%3 != 0 {
				continue
			}
			s := between(t, f, true)
			for bit := range 8 * len(s) {
				tryTurnedBit(t, f, s, bit)
			}
			for bit := range 8 * len(info) {
				tryTurnedInfo(t, f, bit)
			}
		}
	}
}

// tryTurnedBit turns a bit of the written bytes: where it is of the information, and of an octet that stands as it is, ahead and behind, the check tells it.
func tryTurnedBit(t *testing.T, f api.Frame, s string, bit int) {
	t.Helper()
	at := bit / 8
	infoAt := len(s) - len(plainWritten(innerOf(0x07, s[1], f.Info)[2:]))
	if at < infoAt || at >= infoAt+len(plainWritten(f.Info)) {
		return
	}
	u := turn(s, bit)
	for _, b := range []byte{s[at], u[at]} {
		if b == 0x7E || b == 0x7D {
			return
		}
	}
	if s[at-1] == 0x7D {
		return
	}
	g, e := advanced.Decode(u, true, 128)
	if f.Kind == api.UIH {
		if e != api.OK || g.Info == f.Info {
			t.Fatalf("%#v: %X turned to %X: %#v, %v", f, s, u, g, e)
		}
		return
	}
	if e != api.ErrFCS || g != (api.Frame{}) {
		t.Fatalf("%#v: %X turned to %X: %#v, %v", f, s, u, g, e)
	}
}

// tryTurnedInfo turns a bit of the information itself, which is written anew, the check being as it was.
func tryTurnedInfo(t *testing.T, f api.Frame, bit int) {
	t.Helper()
	control, _ := field.Put(f.Kind, f.PF, f.NS, f.NR)
	inner := innerOf(0x07, control, f.Info)
	u := plainWritten(inner[:2] + turn(f.Info, bit) + inner[len(inner)-1:])
	want, wantE := api.Frame{}, api.ErrFCS
	if f.Kind == api.UIH {
		want, wantE = f, api.OK
		want.Info = turn(f.Info, bit)
	}
	if g, e := advanced.Decode(u, true, 128); g != want || e != wantE {
		t.Fatalf("%#v: turned to %X: %#v, %v, not %v", f, u, g, e, wantE)
	}
}

// An answer hangs on the call's arguments alone: not on what was asked before.
func TestNothingIsKept(t *testing.T) {
	for range 3 {
		if s, e := advanced.Encode(api.Frame{Command: true, Kind: api.UA}, true, 31); s != "" || e != api.ErrArg {
			t.Errorf("UA, a command: %X, %v", s, e)
		}
		if s, e := advanced.Encode(api.Frame{DLCI: 1, Command: true, Kind: api.SABM, PF: true}, true, 31); s != "\x7e\x07\x3f\x89\x7e" || e != api.OK {
			t.Errorf("SABM: %X, %v", s, e)
		}
		wantDecode(t, "\x07\x3f\x88", true, 31, api.ErrFCS)
		wantDecode(t, "\x07\x3f\x89", true, 31, api.OK)
		if s, ok := advanced.Unstuff("a\x7d"); s != "" || ok {
			t.Errorf("Unstuff(617D): %X, %t", s, ok)
		}
		if s, ok := advanced.Unstuff("a\x7d\x5e"); s != "a\x7e" || !ok || advanced.Stuff(s) != "a\x7d\x5e" {
			t.Errorf("Unstuff(617D5E): %X, %t", s, ok)
		}
	}
}
