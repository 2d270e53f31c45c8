package deframe_test

import (
	"math"
	"runtime"
	"slices"
	"strings"
	"testing"

	"partyline/advanced"
	"partyline/api"
	"partyline/basic"
	"partyline/deframe"
	"partyline/ea"
	"partyline/fcs"
)

var (
	bools = []bool{false, true}
	// n1s are numbers below 0, 0, 128, above, and between.
	n1s = []int{math.MinInt, math.MinInt32, -129, -1, 0, 1, 2, 8, 31, 126, 127, 128, 129, 255, 256, 1000, math.MaxInt32, 1<<32 + 5, math.MaxInt}
	// tempting are the bytes of which something hangs: flags, what stands for them, marks, lengths, control octets, and checks of these.
	tempting = "\xf9\xf9\xf9\x7e\x7e\x7e\x7d\x5e\x5d\x03\x07\xfb\x02\x00\x01\x01\x05\x3f\x2f\xef\xff\x1c\xfc\x41\xde"
)

// A maker is what a deframer is made of.
type maker struct {
	advanced, initiator bool
	n1                  int
}

func (m maker) make() *deframe.Deframer { return deframe.New(m.advanced, m.initiator, m.n1) }

func (m maker) flag() byte {
	if m.advanced {
		return 0x7E
	}
	return 0xF9
}

func (m maker) room() int {
	switch {
	case m.n1 < 0:
		return 0
	case m.n1 > 128:
		return 128
	}
	return m.n1
}

func (m maker) encode(t *testing.T, f api.Frame) string {
	t.Helper()
	encode := basic.Encode
	if m.advanced {
		encode = advanced.Encode
	}
	s, e := encode(f, m.initiator, m.n1)
	if e != api.OK {
		t.Fatalf("%+v: encode %+v: %v", m, f, e)
	}
	return s
}

func (m maker) decode(s string) (api.Frame, api.Errno) {
	if m.advanced {
		return advanced.Decode(s, m.initiator, m.n1)
	}
	return basic.Decode(s, m.initiator, m.n1)
}

// makers are of all options, sides and numbers.
func makers(numbers ...int) (l []maker) {
	for _, advanced := range bools {
		for _, initiator := range bools {
			for _, n1 := range numbers {
				l = append(l, maker{advanced, initiator, n1})
			}
		}
	}
	return l
}

// A plain deframer is one as the chapter's words say it: all that came since the last beginning is asked anew at each byte.
type plain struct {
	maker
	begun bool
	got   string
	bad   int
}

// begins asks whether s is the beginning of a basic body of that room, and whether it is whole.
func begins(s string, room int) (goesOn, whole bool) {
	if s[0]%2 == 0 {
		return false, false
	}
	for n := range room + 1 {
		length := ea.Length(n)
		end := 2 + len(length) + n + 1
		if len(s) <= end && (len(s) < 2 || strings.HasPrefix(length, s[2:min(len(s), 2+len(length))])) {
			goesOn = true
			whole = whole || len(s) == end
		}
	}
	return goesOn, whole
}

func (p *plain) feed(b byte) (api.Frame, bool) {
	flag := b == p.flag()
	if !p.begun || p.got == "" && flag {
		p.begun = flag
		return api.Frame{}, false
	}
	whole := false
	if !p.advanced && p.got != "" {
		_, whole = begins(p.got, p.room())
	}
	if flag && (p.advanced || whole) {
		f, e := p.decode(p.got)
		if e != api.OK || p.advanced && len(p.got) > 2*p.room()+6 {
			f = api.Frame{}
			p.bad++
		}
		p.got = ""
		return f, f.Kind != 0
	}
	goesOn := p.advanced
	if !goesOn && !whole {
		goesOn, _ = begins(p.got+string([]byte{b}), p.room())
	}
	if goesOn {
		p.got += string([]byte{b})
		return api.Frame{}, false
	}
	p.bad++
	p.begun, p.got = flag, ""
	return api.Frame{}, false
}

// feed lets all bytes come, and holds each answer against the rule that nothing is told beside a false.
func feed(t *testing.T, d *deframe.Deframer, s string) (l []api.Frame) {
	t.Helper()
	for i := range len(s) {
		f, ok := d.Feed(s[i])
		if ok {
			l = append(l, f)
		} else if f != (api.Frame{}) {
			t.Fatalf("%x: at %d nothing, but %+v", s, i, f)
		}
	}
	return l
}

// try holds a deframer against a plain one, at each byte.
func try(t *testing.T, m maker, s string) {
	t.Helper()
	d, p := m.make(), &plain{maker: m}
	for i := range len(s) {
		f, ok := d.Feed(s[i])
		g, should := p.feed(s[i])
		if f != g || ok != should || d.Bad() != p.bad {
			t.Fatalf("%+v: %x: at %d: %+v, %v, bad %d; not %+v, %v, bad %d", m, s, i, f, ok, d.Bad(), g, should, p.bad)
		}
	}
}

// want lets bytes come, and asks for the frames and for how often it was bad.
func want(t *testing.T, m maker, s string, bad int, frames ...api.Frame) {
	t.Helper()
	d := m.make()
	l := feed(t, d, s)
	if d.Bad() != bad {
		t.Errorf("%+v: %x: bad %d, not %d", m, s, d.Bad(), bad)
	}
	same(t, s, l, frames)
}

func same(t *testing.T, s string, l, frames []api.Frame) {
	t.Helper()
	if len(l) != len(frames) {
		t.Fatalf("%x: %d frames, not %d: %+v", s, len(l), len(frames), l)
	}
	for i := range l {
		if l[i] != frames[i] {
			t.Errorf("%x: frame %d is %+v, not %+v", s, i, l[i], frames[i])
		}
	}
}

// mixed is n bytes that follow no plain rule, of those in from (of all, if it is none).
func mixed(n int, seed uint32, from string) string {
	b := make([]byte, n)
	for i := range b {
		seed = seed*1664525 + 1013904223
		b[i] = byte(seed >> 24)
		if from != "" {
			b[i] = from[int(seed>>16)%len(from)]
		}
	}
	return string(b)
}

// framesOf are frames of all kinds with numbers, bits and information of these sizes.
func framesOf(sizes ...int) (l []api.Frame) {
	for _, pf := range bools {
		l = append(l,
			api.Frame{DLCI: 0, Command: true, Kind: api.SABM, PF: pf}, api.Frame{DLCI: 63, Kind: api.UA, PF: pf},
			api.Frame{DLCI: 1, Kind: api.DM, PF: pf}, api.Frame{DLCI: 61, Command: true, Kind: api.DISC, PF: pf},
			api.Frame{DLCI: 7, Command: pf, Kind: api.RR, PF: pf, NR: 7}, api.Frame{DLCI: 31, Command: !pf, Kind: api.RNR, NR: 1},
			api.Frame{DLCI: 32, Command: pf, Kind: api.REJ, PF: pf, NR: 6})
		for _, n := range sizes {
			for _, info := range []string{mixed(n, uint32(n), ""), strings.Repeat("\xf9", n), strings.Repeat("\x7e", n), strings.Repeat("\x7d", n)} {
				l = append(l, api.Frame{DLCI: 5, Command: pf, Kind: api.UIH, PF: pf, Info: info},
					api.Frame{DLCI: 6, Command: !pf, Kind: api.UI, Info: info}, api.Frame{DLCI: 60, Command: pf, Kind: api.I, NS: 3, NR: 4, Info: info})
			}
		}
	}
	return l
}

var (
	toZero = api.Frame{DLCI: 0, Command: true, Kind: api.SABM, PF: true}
	toOne  = api.Frame{DLCI: 1, Command: true, Kind: api.SABM, PF: true}
)

// P6.2, P6.3: the chapter's examples, and bytes of the basic option.
func TestBasicExamples(t *testing.T) {
	m := maker{false, true, 31}
	want(t, m, "", 0)
	want(t, m, "\x00\xf9\x03\x3f\x01\x1c\xf9", 0, toZero)
	want(t, m, "\xf9\x03\x3f\x01\x1c\xf9\x07\x3f\x01\xde\xf9", 0, toZero, toOne)
	want(t, m, "\xf9\x03\x3f\x01\x1d\xf9", 1)
	want(t, m, "\xf9\x02\x03\xf9", 1)
	want(t, m, "\xf9\x03\x3f\x01\x1c\x00\xf9", 1)
}

// P6.1: at first a deframer is lost: without a flag nothing is gathered, and nothing is bad.
func TestLostAtFirst(t *testing.T) {
	for _, m := range makers(n1s...) {
		if m.make() == nil {
			t.Fatalf("%+v: none", m)
		}
		if bad := m.make().Bad(); bad != 0 {
			t.Errorf("%+v: bad %d at first", m, bad)
		}
		s := m.encode(t, toZero)
		want(t, m, s[1:len(s)-1], 0)
		want(t, m, s[1:], 0)
		want(t, m, s[1:]+s[1:], 0, toZero)
		for b := range 256 {
			if byte(b) == m.flag() {
				continue
			}
			noise := strings.Repeat(string([]byte{byte(b)}), 300)
			want(t, m, noise, 0)
			want(t, m, noise+s, 0, toZero)
		}
	}
}

// P6.1: a deframer takes the frames of its own option and side alone.
func TestOptionsAndSides(t *testing.T) {
	for _, m := range makers(31) {
		for _, f := range framesOf(0, 1, 31) {
			want(t, m, m.encode(t, f), 0, f)
		}
		other := maker{m.advanced, !m.initiator, m.n1}
		want(t, other, m.encode(t, toZero), 1) // a response, which a SABM may not be
		either := api.Frame{DLCI: 9, Command: true, Kind: api.RR, NR: 2}
		turned := either
		turned.Command = false
		want(t, other, m.encode(t, either), 0, turned)
		want(t, maker{!m.advanced, m.initiator, m.n1}, m.encode(t, toZero), 0)
	}
}

// P6.1: an information is at most the room.
func TestRooms(t *testing.T) {
	for _, m := range makers(n1s...) {
		whole := maker{m.advanced, m.initiator, 128}
		for _, n := range []int{0, 1, 2, 7, 8, 9, 30, 31, 32, 125, 126, 127, 128} {
			f := api.Frame{DLCI: 3, Command: true, Kind: api.UIH, Info: strings.Repeat("x", n)}
			s := whole.encode(t, f)
			if n <= m.room() {
				want(t, m, s+s, 0, f, f)
			} else if d := m.make(); len(feed(t, d, s)) != 0 || d.Bad() != 1 {
				t.Errorf("%+v: %d bytes: bad %d", m, n, d.Bad())
			}
		}
	}
}

// P6.1: a nil deframer, and one that New did not make.
func TestNone(t *testing.T) {
	var none *deframe.Deframer
	s, _ := basic.Encode(toZero, true, 31)
	a, _ := advanced.Encode(toZero, true, 31)
	if l := feed(t, none, s+a+"\xf9\x02\x03\xf9"); len(l) != 0 || none.Bad() != 0 {
		t.Errorf("nil: %+v, bad %d", l, none.Bad())
	}
	var hand deframe.Deframer
	if hand.Bad() != 0 {
		t.Errorf("by hand: bad %d", hand.Bad())
	}
	o, _ := basic.Encode(toZero, false, 0)
	same(t, o, feed(t, &hand, "x"+o), []api.Frame{toZero})
}

// P6.1: one deframer does nothing to another one.
func TestApart(t *testing.T) {
	m := maker{false, true, 31}
	s := m.encode(t, toZero)
	a, b := m.make(), m.make()
	feed(t, a, s[:3])
	feed(t, b, "\xf9\x02")
	if a.Bad() != 0 || b.Bad() != 1 {
		t.Errorf("bad %d and %d", a.Bad(), b.Bad())
	}
	same(t, s, feed(t, b, s), []api.Frame{toZero})
	same(t, s, feed(t, a, s[3:]), []api.Frame{toZero})
}

// P6.2: flags in a row lead to a beginning, and are neither a frame nor bad; one flag between two frames is enough.
func TestFlags(t *testing.T) {
	for _, m := range makers(n1s...) {
		flag := string([]byte{m.flag()})
		s, u := m.encode(t, toZero), m.encode(t, toOne)
		for _, n := range []int{0, 1, 2, 3, 100, 1000} {
			flags := strings.Repeat(flag, n)
			want(t, m, flags, 0)
			want(t, m, flags+s+flags+u+flags, 0, toZero, toOne)
			want(t, m, s+flags+u[1:]+flags+s[1:], 0, toZero, toOne, toZero)
		}
	}
}

// P6.2: a frame is told at its last flag, and once.
func TestWhen(t *testing.T) {
	for _, m := range makers(0, 31, 128) {
		for _, f := range framesOf(0, m.room()) {
			s := m.encode(t, f)
			d := m.make()
			if l := feed(t, d, s[:len(s)-1]); len(l) != 0 {
				t.Errorf("%+v: %x: ahead of its last flag: %+v", m, s, l)
			}
			if g, ok := d.Feed(m.flag()); !ok || g != f {
				t.Errorf("%+v: %x: at its last flag: %+v, %v", m, s, g, ok)
			}
			if l := feed(t, d, strings.Repeat(s[:1], 3)); len(l) != 0 || d.Bad() != 0 {
				t.Errorf("%+v: %x: behind: %+v, bad %d", m, s, l, d.Bad())
			}
		}
	}
}

// P6.2: within a basic body a flag's byte is one as any other.
func TestFlagWithin(t *testing.T) {
	for _, initiator := range bools {
		m := maker{false, initiator, 128}
		atLength := api.Frame{DLCI: 5, Command: true, Kind: api.UI, Info: strings.Repeat("a", 124)}
		if s := m.encode(t, atLength); s[3] != 0xF9 {
			t.Fatalf("%x: no flag as the length", s)
		}
		want(t, m, m.encode(t, atLength), 0, atLength)
		for _, info := range []string{"\xf9", "\xf9\xf9", "\xf9a\xf9", "a\xf9b", "\xf9\x03\x3f\x01\x1c\xf9", strings.Repeat("\xf9", 124), strings.Repeat("\xf9", 128)} {
			f := api.Frame{DLCI: 5, Command: true, Kind: api.I, NS: 1, NR: 2, Info: info}
			want(t, m, m.encode(t, f), 0, f)
		}
		asControl := api.Frame{DLCI: 5, Command: true, Kind: api.REJ, PF: true, NR: 7}
		if s := m.encode(t, asControl); s[2] != 0xF9 {
			t.Fatalf("%x: no flag as the control octet", s)
		}
		want(t, m, m.encode(t, asControl), 0, asControl)
	}
}

// P6.2: a check may be the flag's byte.
func TestFlagAsCheck(t *testing.T) {
	for _, initiator := range bools {
		m := maker{false, initiator, 128}
		found := 0
		for b := range 256 {
			f := api.Frame{DLCI: 5, Command: true, Kind: api.UI, Info: string([]byte{byte(b)})}
			s := m.encode(t, f)
			want(t, m, s+s[1:], 0, f, f)
			if s[len(s)-2] == 0xF9 {
				found++
			}
		}
		if found == 0 {
			t.Error("no check was the flag's byte")
		}
	}
}

// P6.2, P6.3: where a basic body does not go on it is bad at that byte; at a flag there is a beginning.
func TestNoBody(t *testing.T) {
	body := "\x03\x3f\x01\x1c"
	for _, x := range []struct {
		n1     int
		s      string
		frames int
		bad    int
	}{
		{31, "\xf9\x02" + body + "\xf9", 0, 1},                     // an address whose mark is 0
		{31, "\xf9\x00\x00\x00\xf9" + body + "\xf9", 1, 1},         // once, and what follows is let go
		{31, "\xf9\xf8\xf9" + body + "\xf9", 1, 1},                 // mark 0, beside the flag
		{31, "\xf9\x03\xef\x3f" + strings.Repeat("x", 31), 0, 0},   // as long as the room
		{31, "\xf9\x03\xef\x41", 0, 1},                             // one above the room
		{31, "\xf9\x03\xef\xf9" + body + "\xf9", 1, 1},             // a flag as a length above the room
		{123, "\xf9\x03\xef\xf9" + body + "\xf9", 1, 1},            // 124 is one above the room
		{124, "\xf9\x03\xef\xf9" + body + "\xf9", 0, 0},            // a length that goes on
		{128, "\xf9\x03\xef\x00\x01", 0, 0},                        // 128 in two octets
		{127, "\xf9\x03\xef\x00\x01", 0, 1},                        // one above the room
		{128, "\xf9\x03\xef\x02\x01", 0, 1},                        // 129
		{128, "\xf9\x03\xef\x00\x02", 0, 1},                        // 256
		{128, "\xf9\x03\xef\x00\x00", 0, 1},                        // 0, not as short as may be
		{128, "\xf9\x03\xef\x0a\x00", 0, 1},                        // 5, not as short as may be
		{128, "\xf9\x03\xef\xfe\x00\xf9" + body + "\xf9", 1, 1},    // 127, not as short as may be
		{128, "\xf9\x03\xef\x00\xf9" + body + "\xf9", 1, 1},        // a flag as the second octet of a length
		{31, "\xf9\x03\xef\x00\xf9" + body + "\xf9", 1, 1},         // the same, where there is no such length
		{31, "\xf9\x03\xef\x02\x00\x00\xf9" + body + "\xf9", 1, 1}, // and without a flag
		{0, "\xf9\x03\xef\x01", 0, 0},                              // nothing, in a room of nothing
		{0, "\xf9\x03\xef\x03", 0, 1},                              // one byte in it
		{-1, "\xf9\x03\xef\x03\xf9", 0, 1},                         // the same below
		{31, "\xf9" + body, 0, 0},                                  // whole, and nothing behind
		{31, "\xf9" + body + "\x00", 0, 1},                         // whole, and another byte behind
		{31, "\xf9" + body + "\x03\x3f\x01\x1c\xf9", 0, 1},         // no flag between
		{31, "\xf9" + body + "\x00" + body + "\xf9" + body + "\xf9", 1, 1},
		{31, "\xf9\x03\x3f\x01\xf9" + body + "\xf9", 0, 1}, // a flag as the check, and no flag behind
		{31, "\xf9\x03\x3f\x01\xf9\xf9" + body + "\xf9", 1, 1},
		{31, "\xf9\x03\xf9\xf9\xf9" + body + "\xf9", 1, 1}, // a flag as the control octet, and one as a length above the room
	} {
		m := maker{false, true, x.n1}
		want(t, m, x.s, x.bad, slices.Repeat([]api.Frame{toZero}, x.frames)...)
		try(t, m, x.s)
		try(t, maker{false, false, x.n1}, x.s)
	}
}

// P6.3: a body is bad as soon as no body begins so, and not ahead.
func TestBadAt(t *testing.T) {
	for _, x := range []struct {
		n1 int
		s  string // bad at its last byte
	}{
		{31, "\xf9\x02"}, {31, "\xf9\x03\xef\x41"}, {31, "\xf9\x03\xef\x00"}, {127, "\xf9\x03\xef\x00"}, {128, "\xf9\x03\xef\x02"}, {128, "\xf9\x03\xef\x00\x00"}, {128, "\xf9\x03\xef\x00\x02"}, {31, "\xf9\x03\x3f\x01\x1c\x00"}, {31, "\xf9\x03\x3f\x01\x1d\xf9"}, {31, "\xf9\x03\x3f\x01\x1d\x00"},
		{31, "\xf9\x03\x0d\x01" + string([]byte{fcs.Sum("\x03\x0d\x01")}) + "\xf9"}, // an octet that is no control octet
		{31, "\xf9\x03\x73\x01" + string([]byte{fcs.Sum("\x03\x73\x01")}) + "\xf9"}, // an UA that is a command
	} {
		d := deframe.New(false, true, x.n1)
		last := len(x.s) - 1
		if l := feed(t, d, x.s[:last]); len(l) != 0 || d.Bad() != 0 {
			t.Errorf("n1 %d: %x: ahead of the last byte: %+v, bad %d", x.n1, x.s, l, d.Bad())
		}
		if l := feed(t, d, x.s[last:]); len(l) != 0 || d.Bad() != 1 {
			t.Errorf("n1 %d: %x: %+v, bad %d", x.n1, x.s, l, d.Bad())
		}
		if feed(t, d, "xyz"); d.Bad() != 1 && x.s[last] != 0xF9 {
			t.Errorf("n1 %d: %x: not lost: bad %d", x.n1, x.s, d.Bad())
		}
	}
}

// P6.2, P6.3: what was gathered of the advanced option is bad at its flag, if it is no frame, or too much.
func TestAdvancedBad(t *testing.T) {
	for _, n1 := range n1s {
		m := maker{true, true, n1}
		s := m.encode(t, toZero)
		most := 2*m.room() + 6
		for _, n := range []int{1, 2, 3, 4, most - 1, most, most + 1, most + 2, 2 * most, 5000} {
			for _, fill := range []string{"x", "\x7d", "\xf9", "\x7d\x5e"} {
				noise := strings.Repeat(fill, n)[:n]
				want(t, m, s+noise, 0, toZero)
				want(t, m, s+noise+s[:1], 1, toZero)
				want(t, m, s+noise+s+noise+s, 2, toZero, toZero, toZero)
			}
		}
		want(t, m, "~\x03~\x03\x3f~\x7d~\x7d\x41\x42\x43~\x02\x3f\xfc~\x03\x0d\x00~\x03\x3f\xfd~", 7)
	}
}

// twos are all texts of n octets that the advanced option writes as two each.
func twos(n int) []string {
	l := []string{""}
	for range n {
		for _, s := range l[:len(l):len(l)] {
			l = append(l, s+"\x7e", s+"\x7d")
		}
		l = l[len(l)/3:]
	}
	return l
}

// P6.2: an advanced frame may be as much as twice the room and 6 bytes.
func TestAdvancedMost(t *testing.T) {
	for _, initiator := range bools {
		for n := range 9 {
			m := maker{true, initiator, n}
			most := 0
			for _, info := range twos(n) {
				f := api.Frame{DLCI: 31, Command: !initiator, Kind: api.I, PF: true, NS: 7, NR: 3, Info: info}
				s := m.encode(t, f)
				most = max(most, len(s)-2)
				want(t, m, s+s[1:], 0, f, f)
				want(t, m, s[:len(s)-1]+"x"+s, 1, f)
			}
			if n > 6 && most != 2*n+6 {
				t.Errorf("room %d: at most %d bytes between flags", n, most)
			}
		}
	}
}

// P6.2: a frame that was told is not touched by what comes later.
func TestMemory(t *testing.T) {
	for _, m := range makers(128) {
		d := m.make()
		first := api.Frame{DLCI: 5, Command: true, Kind: api.I, NS: 1, NR: 2, Info: strings.Repeat("ab", 64)}
		l := feed(t, d, m.encode(t, first))
		other := first
		other.Info = strings.Repeat("~\xf9", 64)
		s := m.encode(t, other)
		l = append(l, feed(t, d, s+mixed(5000, 7, "")+strings.Repeat(s[:1], 136)+s)...)
		if len(l) < 3 || l[0] != first || l[1] != other || l[len(l)-1] != other {
			t.Errorf("%+v: %d frames: %+v", m, len(l), l)
		}
	}
}

// What comes without a flag is not kept.
func TestNotKept(t *testing.T) {
	for _, m := range makers(128) {
		d := m.make()
		flag := m.flag()
		d.Feed(flag)
		var ahead, behind runtime.MemStats
		runtime.ReadMemStats(&ahead)
		for range 1 << 20 {
			d.Feed(flag ^ 0x55)
		}
		runtime.ReadMemStats(&behind)
		if n := behind.TotalAlloc - ahead.TotalAlloc; n > 1<<18 {
			t.Errorf("%+v: %d bytes", m, n)
		}
	}
}

// P6.4: frames that are encoded are told in order, and nothing is bad, whether they have one flag between or more.
func TestInOrder(t *testing.T) {
	for _, m := range makers(n1s...) {
		frames := framesOf(0, m.room()/2, m.room())
		var apart, shared strings.Builder
		for i, f := range frames {
			s := m.encode(t, f)
			apart.WriteString(s)
			if i > 0 {
				s = s[1:]
			}
			shared.WriteString(s)
		}
		want(t, m, apart.String(), 0, frames...)
		want(t, m, shared.String(), 0, frames...)
		want(t, m, shared.String()+apart.String()[1:]+apart.String(), 0, slices.Repeat(frames, 3)...)
	}
}

// noises are bytes behind which a deframer may be anywhere.
func noises(t *testing.T, m maker) (l []string) {
	l = []string{"", "x", "\xf9", "\x7e", "\x7d", "\xf9\x02", "\xf9\x03", "\xf9\x03\xef", "\xf9\x03\xef\xff", "\xf9\x03\xef\xf9", "\xf9\x03\xef\x00", "\xf9\x03\xef\x00\x01", "\xf9\x03\xef\x00\x01x", "\xf9\x03\xf9", "~\x03", "~\x03\x3f}", "~" + strings.Repeat("x", 1000)}
	longest := api.Frame{DLCI: 4, Command: true, Kind: api.UI, Info: mixed(m.room(), 3, "")}
	s := m.encode(t, longest)
	for i := range len(s) {
		l = append(l, s[:i])
	}
	for i := range 40 {
		l = append(l, mixed(50+i, uint32(i), ""), mixed(50+i, uint32(i), tempting))
	}
	return l
}

// P6.4: behind any bytes a frame is told, if as many flags as the room and 8 stand ahead of it.
func TestComesBack(t *testing.T) {
	for _, m := range makers(n1s...) {
		flags := strings.Repeat(string([]byte{m.flag()}), m.room()+8)
		f := api.Frame{DLCI: 9, Command: true, Kind: api.UIH, Info: mixed(m.room(), 9, tempting)}
		s := m.encode(t, f)
		for _, noise := range noises(t, m) {
			d := m.make()
			feed(t, d, noise+flags)
			bad := d.Bad()
			if l := feed(t, d, s); len(l) != 1 || l[0] != f || d.Bad() != bad {
				t.Fatalf("%+v: behind %x: %+v, bad %d and %d", m, noise, l, bad, d.Bad())
			}
		}
	}
}

// P6.4: each frame that is told stands, encoded, in the bytes that came, and its last byte is the one at which it is told.
func TestStandsThere(t *testing.T) {
	told := 0
	for _, m := range makers(0, 1, 2, 31, 128) {
		for seed := range uint32(60) {
			s := mixed(2000, seed, tempting) + m.encode(t, toOne) + m.encode(t, toZero)[1:] + mixed(200, seed, "")
			d := m.make()
			for i := range len(s) {
				if f, ok := d.Feed(s[i]); ok {
					told++
					if !strings.HasSuffix(s[:i+1], m.encode(t, f)) {
						t.Fatalf("%+v: %x: %+v is not there", m, s[:i+1], f)
					}
				}
			}
		}
	}
	if told < 100 {
		t.Errorf("only %d frames were told", told)
	}
}

// P6.2, P6.3: any bytes, against the chapter's words.
func TestAnyBytes(t *testing.T) {
	for _, m := range makers(n1s...) {
		for seed := range uint32(20) {
			try(t, m, mixed(400, seed, ""))
			try(t, m, mixed(600, seed, tempting))
			try(t, m, mixed(300, seed, "\xf9\x7e\x03\x01\x00"))
		}
	}
}

// P6.2, P6.3: frames of which a byte is changed, left out or doubled, against the chapter's words.
func TestDamaged(t *testing.T) {
	for _, m := range makers(0, 31, 128) {
		for _, f := range []api.Frame{toZero, {DLCI: 9, Command: true, Kind: api.UIH, Info: mixed(m.room(), 5, tempting)}, {DLCI: 10, Kind: api.I, NS: 2, NR: 5, Info: mixed(m.room()/2, 6, "")}} {
			s := m.encode(t, f)
			for i := range s {
				if i > 8 && i < len(s)-4 && i%16 != 0 {
					continue // within the information one octet is as good as another
				}
				try(t, m, s[:i]+s[i+1:]+s+s)
				try(t, m, s[:i+1]+s[i:]+s+s)
				for _, b := range []byte(tempting) {
					try(t, m, s[:i]+string([]byte{b})+s[i+1:]+s+s)
				}
			}
		}
	}
}
