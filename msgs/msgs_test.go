package msgs_test

import (
	"maps"
	"math"
	"runtime"
	"slices"
	"strings"
	"testing"

	"partyline/api"
	"partyline/msc"
	"partyline/msgs"
	"partyline/pn"
	"partyline/tlv"
)

var bools = []bool{false, true}

// A row is one of the chapter's table, but the last: a Kind, its type, and what it needs.
type row struct {
	kind  uint8
	octet int // its type
	needs string
}

var table = []row{
	{1, 0x20, "PN"}, {2, 0x38, "MSC"}, {3, 0x28, ""}, {4, 0x18, ""}, {5, 0x08, "Bytes"}, {6, 0x30, ""}, {7, 0x04, "Type"},
}

// rowOf is the row of a Kind; there is none of an Unknown, nor of what is no Kind.
func rowOf(kind uint8) (row, bool) {
	for _, r := range table {
		if r.kind == kind {
			return r, true
		}
	}
	return row{}, false
}

// inTable asks whether a type is one of those in the table.
func inTable(n int) bool {
	return slices.ContainsFunc(table, func(r row) bool { return r.octet == n })
}

// needs is what a Kind needs.
func needs(kind uint8) string {
	if kind == msgs.Unknown {
		return "Type Bytes"
	}
	r, _ := rowOf(kind)
	return r.needs
}

// plainMay asks a message as the chapter's words say it.
func plainMay(m msgs.Message) bool {
	_, known := rowOf(m.Kind)
	if !known && m.Kind != 8 {
		return false
	}
	need := strings.Fields(needs(m.Kind))
	for name, has := range map[string]bool{"PN": m.PN != pn.Params{}, "MSC": m.MSC != msc.Status{}, "Type": m.Type != 0, "Bytes": m.Bytes != ""} {
		if has && !slices.Contains(need, name) {
			return false
		}
	}
	switch m.Kind {
	case 1:
		_, e := pn.Put(m.PN)
		return e == api.OK
	case 2:
		_, e := msc.Put(m.MSC)
		return e == api.OK
	case 8:
		return m.Type <= 0x3F && !inTable(int(m.Type))
	}
	return true
}

// plainPut writes a message as the chapter's words say it, by numbers.
func plainPut(m msgs.Message) (string, api.Errno) {
	if !plainMay(m) {
		return "", api.ErrArg
	}
	if len(m.Bytes) > 127 {
		return "", api.ErrLimit
	}
	value := m.Bytes
	switch m.Kind {
	case 1:
		value, _ = pn.Put(m.PN)
	case 2:
		value, _ = msc.Put(m.MSC)
	case 7:
		value = octets(int(m.Type))
	}
	return octets(int(plainOctet(m)), 2*len(value)+1) + value, api.OK
}

// plainOctet is the first octet.
func plainOctet(m msgs.Message) uint8 {
	if !plainMay(m) {
		return 0
	}
	n := int(m.Type)
	if r, known := rowOf(m.Kind); known {
		n = r.octet
	}
	n = 4*n + 1
	if m.Command {
		n += 2
	}
	return uint8(n)
}

// A reading is all that Get answers.
type reading struct {
	msgs.Message
	size int
	e    api.Errno
}

func get(s string) reading {
	m, size, e := msgs.Get(s)
	return reading{m, size, e}
}

// plainGet reads a message as the chapter's words say it.
func plainGet(s string) reading {
	n, command, value, size, e := tlv.Get(s)
	if e != api.OK {
		return reading{e: e}
	}
	m := msgs.Message{Kind: 8, Command: command}
	for _, r := range table {
		if r.octet == int(n) {
			m.Kind = r.kind
		}
	}
	ok := true
	switch m.Kind {
	case 1:
		m.PN, e = pn.Get(value)
		ok = e == api.OK
	case 2:
		m.MSC, e = msc.Get(value)
		ok = e == api.OK
	case 3, 4, 6:
		ok = len(value) == 0
	case 5:
		m.Bytes = value
	case 7:
		ok = len(value) == 1
		if ok {
			m.Type = value[0]
		}
	case 8:
		m.Type, m.Bytes = n, value
	}
	if !ok {
		return reading{e: api.ErrMessage}
	}
	return reading{m, size, api.OK}
}

// plainAll reads all messages by plainGet.
func plainAll(s string) (l []msgs.Message, size int) {
	for {
		r := plainGet(s[size:])
		if r.e != api.OK {
			return l, size
		}
		l, size = append(l, r.Message), size+r.size
	}
}

// octets are numbers as octets.
func octets(l ...int) string {
	var s []byte
	for _, n := range l {
		s = append(s, byte(n))
	}
	return string(s)
}

// bytesOf are n octets, none like the one ahead of it, even ones, odd ones and such as would be of no rune.
func bytesOf(n int) string {
	s := make([]byte, n)
	for i := range s {
		s[i] = byte(37*i + n + 200)
	}
	return string(s)
}

// params are parameters that may be, by their octets.
func params() map[string]pn.Params {
	return map[string]pn.Params{
		"\x05\x32\x07\x0a\x2c\x01\x03\x02": {DLCI: 5, Frame: 2, CL: 3, Priority: 7, T1: 10, N1: 300, N2: 3, K: 2},
		"\x01\x00\x00\x01\x01\x00\x00\x01": {DLCI: 1, T1: 1, N1: 1, K: 1},
		"\x3f\x32\x3f\xff\xff\xff\xff\x07": {DLCI: 63, Frame: 2, CL: 3, Priority: 63, T1: 255, N1: 65535, N2: 255, K: 7},
	}
}

// noParams are parameters that may not be.
func noParams() []pn.Params {
	good := pn.Params{DLCI: 5, Frame: 2, CL: 3, Priority: 7, T1: 10, N1: 300, N2: 3, K: 2}
	l := []pn.Params{{}, {K: 1}, {DLCI: 1}}
	for _, change := range []func(p *pn.Params){
		func(p *pn.Params) { p.DLCI = 0 }, func(p *pn.Params) { p.DLCI = 64 }, func(p *pn.Params) { p.Frame = 3 },
		func(p *pn.Params) { p.CL = 4 }, func(p *pn.Params) { p.Priority = 64 }, func(p *pn.Params) { p.T1 = 0 },
		func(p *pn.Params) { p.T1 = 256 }, func(p *pn.Params) { p.N1 = 0 }, func(p *pn.Params) { p.N1 = 65536 },
		func(p *pn.Params) { p.N2 = -1 }, func(p *pn.Params) { p.N2 = 256 }, func(p *pn.Params) { p.K = 0 },
		func(p *pn.Params) { p.K = 8 }, func(p *pn.Params) { p.N1 = math.MinInt }, func(p *pn.Params) { p.K = math.MaxInt },
	} {
		p := good
		change(&p)
		l = append(l, p)
	}
	return l
}

// statuses are such by their octets.
func statuses() map[string]msc.Status {
	return map[string]msc.Status{
		"\x03\x01":     {},
		"\x07\x8d":     {DLCI: 1, RTC: true, RTR: true, DV: true},
		"\xff\xcf":     {DLCI: 63, FC: true, RTC: true, RTR: true, IC: true, DV: true},
		"\x0b\x02\x53": {DLCI: 2, FC: true, HasBreak: true, Break: 5},
		"\x03\x00\x03": {HasBreak: true},
		"\xff\xce\xf3": {DLCI: 63, FC: true, RTC: true, RTR: true, IC: true, DV: true, HasBreak: true, Break: 15},
	}
}

// noStatuses are none.
func noStatuses() []msc.Status {
	return []msc.Status{{DLCI: 64}, {DLCI: 255}, {Break: 1}, {Break: 255}, {HasBreak: true, Break: 16}, {DLCI: 64, HasBreak: true, Break: 3}, {DLCI: 1, RTC: true, Break: 5}}
}

// lone are messages in which there is one thing, in one field alone, by what it is of.
func lone() map[string][]msgs.Message {
	return map[string][]msgs.Message{
		"PN": {
			{PN: pn.Params{DLCI: 1}}, {PN: pn.Params{Frame: 1}}, {PN: pn.Params{CL: 1}}, {PN: pn.Params{Priority: 1}},
			{PN: pn.Params{T1: 1}}, {PN: pn.Params{N1: 1}}, {PN: pn.Params{N2: 1}}, {PN: pn.Params{K: 1}}, {PN: pn.Params{N1: -1}},
			{PN: pn.Params{DLCI: 5, Frame: 2, CL: 3, Priority: 7, T1: 10, N1: 300, N2: 3, K: 2}},
		},
		"MSC": {
			{MSC: msc.Status{DLCI: 1}}, {MSC: msc.Status{FC: true}}, {MSC: msc.Status{RTC: true}}, {MSC: msc.Status{RTR: true}},
			{MSC: msc.Status{IC: true}}, {MSC: msc.Status{DV: true}}, {MSC: msc.Status{HasBreak: true}}, {MSC: msc.Status{Break: 1}},
			{MSC: msc.Status{DLCI: 1, RTC: true, RTR: true, DV: true}},
		},
		"Type":  {{Type: 1}, {Type: 3}, {Type: 0x20}, {Type: 0x3F}, {Type: 0x40}, {Type: 0x80}, {Type: 255}},
		"Bytes": {{Bytes: "\x00"}, {Bytes: "x"}, {Bytes: bytesOf(127)}, {Bytes: bytesOf(128)}, {Bytes: bytesOf(300)}},
	}
}

// and is m with all that the other one has.
func and(m, other msgs.Message) msgs.Message {
	if other.PN != (pn.Params{}) {
		m.PN = other.PN
	}
	if other.MSC != (msc.Status{}) {
		m.MSC = other.MSC
	}
	if other.Type != 0 {
		m.Type = other.Type
	}
	m.Bytes += other.Bytes
	return m
}

// written are messages of each Kind by their octets, all by hand, but for commands and responses, and lists that are told here.
func written() map[string]msgs.Message {
	w := map[string]msgs.Message{}
	add := func(head int, value string, m msgs.Message) {
		w[octets(head, 2*len(value)+1)+value] = m
		m.Command = true
		w[octets(head+2, 2*len(value)+1)+value] = m
	}
	for v, p := range params() {
		add(0x81, v, msgs.Message{Kind: msgs.PN, PN: p})
	}
	for v, s := range statuses() {
		add(0xE1, v, msgs.Message{Kind: msgs.MSC, MSC: s})
	}
	add(0xA1, "", msgs.Message{Kind: msgs.FCon})
	add(0x61, "", msgs.Message{Kind: msgs.FCoff})
	add(0xC1, "", msgs.Message{Kind: msgs.CLD})
	for _, n := range []int{0, 1, 2, 126, 127} {
		add(0x21, bytesOf(n), msgs.Message{Kind: msgs.Test, Bytes: bytesOf(n)})
		for t, head := range map[uint8]int{0: 0x01, 1: 0x05, 3: 0x0D, 5: 0x15, 0x1F: 0x7D, 0x21: 0x85, 0x3F: 0xFD} {
			add(head, bytesOf(n), msgs.Message{Kind: msgs.Unknown, Type: t, Bytes: bytesOf(n)})
		}
	}
	for _, n := range []int{0, 1, 0x11, 0x3D, 0x83, 0xA3, 0xFE, 0xFF} {
		add(0x11, octets(n), msgs.Message{Kind: msgs.NSC, Type: uint8(n)})
	}
	return w
}

// sorted are the octets of written messages, rising.
func sorted(w map[string]msgs.Message) (l []string) {
	for s := range w {
		l = append(l, s)
	}
	slices.Sort(l)
	return l
}

// wrongs are octets that are no message, each with Get's error.
func wrongs() map[string]api.Errno {
	return map[string]api.Errno{
		"": api.ErrShort, "\xa3": api.ErrShort, "\xa3\x00": api.ErrShort, "\xa3\x03": api.ErrShort, "\x21\x05a": api.ErrShort,
		"\x83\x11\x05\x32\x07\x0a\x2c\x01\x03": api.ErrShort, "\xe3\x05\x07": api.ErrShort, "\x11\x03": api.ErrShort,
		"\x00": api.ErrMessage, "\xa2\x01": api.ErrMessage, "\x22\x05ab": api.ErrMessage, "\xa3\x00\x00": api.ErrMessage,
		"\x21\x04\x00ab": api.ErrMessage, "\x21\x00\x01": api.ErrMessage, "\xa3\x03x": api.ErrMessage, "\x61\x03\x00": api.ErrMessage,
		"\xc1\x05ab": api.ErrMessage, "\x11\x01": api.ErrMessage, "\x13\x05\x3d\x3d": api.ErrMessage, "\xe3\x01": api.ErrMessage,
		"\xe3\x03\x07": api.ErrMessage, "\xe3\x05\x06\x8d": api.ErrMessage, "\x83\x01": api.ErrMessage,
		"\x83\x0f\x05\x32\x07\x0a\x2c\x01\x03": api.ErrMessage, "\x83\x11\x05\x32\x07\x0a\x2c\x01\x03\x08": api.ErrMessage,
	}
}

// samePut holds May, Put and Octet of m against the plain ones.
func samePut(t *testing.T, m msgs.Message) {
	t.Helper()
	if got, want := msgs.May(m), plainMay(m); got != want {
		t.Fatalf("May %+v: %t", m, got)
	}
	want, wantE := plainPut(m)
	if s, e := msgs.Put(m); s != want || e != wantE {
		t.Fatalf("Put %+v: %X, %v, not %X, %v", m, s, e, want, wantE)
	}
	if got, want := msgs.Octet(m), plainOctet(m); got != want {
		t.Fatalf("Octet %+v: %02X, not %02X", m, got, want)
	}
}

// sameGet holds Get of s against the plain one.
func sameGet(t *testing.T, s string) {
	t.Helper()
	if r, want := get(s), plainGet(s); r != want {
		t.Fatalf("Get %X: %+v, not %+v", s, r, want)
	}
}

func sameAll(t *testing.T, s string, want []msgs.Message, wantSize int) {
	t.Helper()
	if l, size := msgs.All(s); !slices.Equal(l, want) || size != wantSize {
		t.Fatalf("All %X: %+v, %d, not %+v, %d", s, l, size, want, wantSize)
	}
}

// refused holds that m may not be.
func refused(t *testing.T, m msgs.Message) {
	t.Helper()
	s, e := msgs.Put(m)
	if s != "" || e != api.ErrArg || msgs.May(m) || msgs.Octet(m) != 0 {
		t.Fatalf("%+v: May %t, Put %X, %v, Octet %02X", m, msgs.May(m), s, e, msgs.Octet(m))
	}
}

// P10.1 and P10.4: the Kinds are those that the chapter names.
func TestKinds(t *testing.T) {
	got := []uint8{msgs.PN, msgs.MSC, msgs.FCon, msgs.FCoff, msgs.Test, msgs.CLD, msgs.NSC, msgs.Unknown}
	if !slices.Equal(got, []uint8{1, 2, 3, 4, 5, 6, 7, 8}) {
		t.Errorf("the Kinds are %d", got)
	}
}

// P10.1, P10.2 and P10.4: the chapter's examples.
func TestExamples(t *testing.T) {
	for _, x := range []struct {
		m    msgs.Message
		want string
	}{
		{msgs.Message{Kind: msgs.FCon, Command: true}, "\xa3\x01"},
		{msgs.Message{Kind: msgs.Test, Bytes: "ab"}, "\x21\x05ab"},
		{msgs.Message{Kind: msgs.NSC, Type: 0x3D}, "\x11\x03\x3d"},
	} {
		if s, e := msgs.Put(x.m); s != x.want || e != api.OK || !msgs.May(x.m) || msgs.Octet(x.m) != x.want[0] {
			t.Errorf("Put %+v: %X, %v, its Octet %02X", x.m, s, e, msgs.Octet(x.m))
		}
	}
	for _, x := range []struct {
		s    string
		want reading
	}{
		{"\xa3\x01x", reading{msgs.Message{Kind: msgs.FCon, Command: true}, 2, api.OK}},
		{"\xa3\x03x", reading{e: api.ErrMessage}},
		{"\x0f\x01", reading{msgs.Message{Kind: msgs.Unknown, Command: true, Type: 3}, 2, api.OK}},
	} {
		if r := get(x.s); r != x.want {
			t.Errorf("Get %X: %+v, not %+v", x.s, r, x.want)
		}
	}
}

// P10.1 and P10.4: messages of each Kind, commands and responses, by hand.
func TestPutWritten(t *testing.T) {
	for want, m := range written() {
		if s, e := msgs.Put(m); s != want || e != api.OK || !msgs.May(m) {
			t.Errorf("Put %+v: %X, %v, not %X, and May %t", m, s, e, want, msgs.May(m))
		}
		if o := msgs.Octet(m); o != want[0] {
			t.Errorf("Octet %+v: %02X, not %02X", m, o, want[0])
		}
	}
}

// P10.1 and P10.4: what is no Kind, 0, 9 and 255 among them, whatever there is in it.
func TestNoKind(t *testing.T) {
	for kind := range 256 {
		if kind >= 1 && kind <= 8 {
			continue
		}
		for _, command := range bools {
			refused(t, msgs.Message{Kind: uint8(kind), Command: command})
			for _, l := range lone() {
				for _, m := range l {
					m.Kind, m.Command = uint8(kind), command
					refused(t, m)
				}
			}
		}
	}
}

// P10.1 and P10.4: each Kind with what it needs, and with each thing that another one needs besides.
func TestNothingElse(t *testing.T) {
	for s, base := range written() {
		for name, l := range lone() {
			for _, other := range l {
				if !slices.Contains(strings.Fields(needs(base.Kind)), name) {
					refused(t, and(base, other))
				}
				samePut(t, and(base, other))
			}
		}
		if got, e := msgs.Put(base); got != s || e != api.OK {
			t.Fatalf("Put %+v: %X, %v", base, got, e)
		}
	}
}

// P10.1 and P10.4: all Kinds, with and without each thing, such as may be and such as may not.
func TestPutMixed(t *testing.T) {
	ps := []pn.Params{{}, {DLCI: 5, Frame: 2, CL: 3, Priority: 7, T1: 10, N1: 300, N2: 3, K: 2}, {DLCI: 1, T1: 1, N1: 1, K: 8}}
	ss := []msc.Status{{}, {DLCI: 1, RTC: true}, {HasBreak: true}, {DLCI: 64}}
	ts := []uint8{0, 1, 4, 8, 0x20, 0x3F, 0x40, 255}
	bs := []string{"", "\x00", bytesOf(127), bytesOf(128)}
	for kind := range 256 {
		for _, p := range ps {
			for _, s := range ss {
				for _, o := range ts {
					for _, b := range bs {
						m := msgs.Message{Kind: uint8(kind), PN: p, MSC: s, Type: o, Bytes: b}
						samePut(t, m)
						m.Command = true
						samePut(t, m)
					}
				}
			}
		}
	}
}

// P10.1 and P10.4: parameters, and a status, that may not be.
func TestMayNot(t *testing.T) {
	for _, command := range bools {
		for _, p := range noParams() {
			refused(t, msgs.Message{Kind: msgs.PN, Command: command, PN: p})
		}
		for _, s := range noStatuses() {
			refused(t, msgs.Message{Kind: msgs.MSC, Command: command, MSC: s})
		}
	}
}

// P10.1 and P10.4: the Type of an Unknown is each one but those in the table and those above 3F.
func TestUnknownTypes(t *testing.T) {
	may := 0
	for n := range 256 {
		for _, command := range bools {
			for _, b := range []string{"", "z", bytesOf(127), bytesOf(128)} {
				m := msgs.Message{Kind: msgs.Unknown, Command: command, Type: uint8(n), Bytes: b}
				if n > 0x3F || inTable(n) {
					refused(t, m)
				} else {
					may++
				}
				samePut(t, m)
			}
		}
	}
	if want := (64 - 7) * 2 * 4; may != want {
		t.Errorf("%d may be, not %d", may, want)
	}
	for _, n := range []uint8{0x04, 0x08, 0x18, 0x20, 0x28, 0x30, 0x38, 0x40, 0x44, 0x60, 0xFF} {
		refused(t, msgs.Message{Kind: msgs.Unknown, Type: n})
	}
	for n, want := range map[uint8]string{0: "\x01\x03z", 0x03: "\x0d\x03z", 0x3E: "\xf9\x03z", 0x3F: "\xfd\x03z"} {
		if s, e := msgs.Put(msgs.Message{Kind: msgs.Unknown, Type: n, Bytes: "z"}); s != want || e != api.OK {
			t.Errorf("Type %02X: %X, %v", n, s, e)
		}
	}
}

// P10.1 and P10.4: an NSC tells of any octet.
func TestNSCTypes(t *testing.T) {
	for n := range 256 {
		for command, head := range map[bool]int{false: 0x11, true: 0x13} {
			m := msgs.Message{Kind: msgs.NSC, Command: command, Type: uint8(n)}
			if s, e := msgs.Put(m); s != octets(head, 3, n) || e != api.OK || !msgs.May(m) || int(msgs.Octet(m)) != head {
				t.Fatalf("Put %+v: %X, %v", m, s, e)
			}
		}
	}
}

// P10.1 and P10.4: as many Bytes as a message may have, and more: it may be, and has its octet, but is not put.
func TestSizes(t *testing.T) {
	for _, n := range []int{0, 1, 2, 63, 64, 126, 127, 128, 129, 255, 256, 257, 300, 383, 384, 32767, 32768, 65536, 65541, 1 << 20} {
		for _, command := range bools {
			for _, m := range []msgs.Message{{Kind: msgs.Test}, {Kind: msgs.Unknown}, {Kind: msgs.Unknown, Type: 3}, {Kind: msgs.Unknown, Type: 0x3F}} {
				m.Command, m.Bytes = command, bytesOf(n)
				want := api.OK
				if n > 127 {
					want = api.ErrLimit
				}
				s, e := msgs.Put(m)
				if e != want || (s == "") != (n > 127) || !msgs.May(m) || msgs.Octet(m) == 0 {
					t.Fatalf("%d Bytes of the Kind %d: %v, May %t, Octet %02X", n, m.Kind, e, msgs.May(m), msgs.Octet(m))
				}
				samePut(t, m)
				m.PN.K = 1
				refused(t, m)
			}
		}
	}
	// That it may not be is told ahead of its being too long.
	for _, m := range []msgs.Message{{Kind: msgs.Test, Type: 1}, {Kind: msgs.Unknown, Type: 0x20}, {Kind: msgs.Unknown, Type: 64}, {Kind: msgs.FCon}, {Kind: msgs.NSC, Type: 3}, {}} {
		m.Bytes = bytesOf(300)
		refused(t, m)
	}
}

// P10.2: messages of each Kind, commands and responses, by hand, whatever stands behind.
func TestGetWritten(t *testing.T) {
	for s, m := range written() {
		for _, behind := range []string{"", "\x00", "\x01", "\xa3", s, "more", strings.Repeat("\xff", 300)} {
			if r := get(s + behind); r != (reading{m, len(s), api.OK}) {
				t.Errorf("Get %X, with %X behind: %+v", s, behind, r)
			}
		}
	}
}

// P10.2: octets that are no message, by hand.
func TestGetWrongs(t *testing.T) {
	for s, want := range wrongs() {
		if r := get(s); r != (reading{e: want}) {
			t.Errorf("Get %X: %+v, not %v", s, r, want)
		}
	}
}

// P10.2: octets of none, one and two, and every first octet with every short length and what stands behind.
func TestGetHeads(t *testing.T) {
	rests := []string{"", "\x00", "\x3d", "\x07\x8d", "\x0b\x02\x53", "\x05\x32\x07\x0a\x2c\x01\x03\x02", bytesOf(8), bytesOf(126), bytesOf(127), bytesOf(300)}
	sameGet(t, "")
	for a := range 256 {
		sameGet(t, octets(a))
		for b := range 256 {
			for _, rest := range rests {
				sameGet(t, octets(a, b)+rest)
			}
		}
	}
}

// P10.2: which Kind each type is, commands and responses: of the table the values that these have, of all others any.
func TestGetTypes(t *testing.T) {
	own := map[uint8]string{msgs.PN: "\x05\x32\x07\x0a\x2c\x01\x03\x02", msgs.MSC: "\x07\x8d", msgs.NSC: "\x3d"}
	for n := range 64 {
		kind := msgs.Unknown
		for _, r := range table {
			if r.octet == n {
				kind = r.kind
			}
		}
		for _, command := range bools {
			head := 4*n + 1
			if command {
				head += 2
			}
			s := octets(head, 2*len(own[kind])+1) + own[kind]
			r := get(s)
			if r.e != api.OK || r.Kind != kind || r.Command != command || r.size != len(s) {
				t.Errorf("Get %X: %+v", s, r)
			}
			if kind == msgs.Unknown && r.Type != uint8(n) {
				t.Errorf("Get %X: the Type %02X", s, r.Type)
			}
		}
	}
}

// P10.2: a message that is cut ahead of any of its octets is short.
func TestGetCut(t *testing.T) {
	for s := range written() {
		for n := range len(s) {
			if r := get(s[:n]); r != (reading{e: api.ErrShort}) {
				t.Fatalf("Get %X, cut from %X: %+v", s[:n], s, r)
			}
		}
	}
}

// P10.2: a length in two octets is none, once it is there, of every type; and an even first octet is none.
func TestGetNoTLV(t *testing.T) {
	value := bytesOf(33000)
	for a := range 256 {
		for _, l := range []string{"\x00\x00", "\x02\x00", "\x04\x00", "\x10\x00", "\xfe\x00", "\x00\x01", "\x02\x01", "\xfe\xff"} {
			for _, rest := range []string{"", "\x01", "\x07\x8d", value} {
				if r := get(octets(a) + l + rest); r != (reading{e: api.ErrMessage}) {
					t.Fatalf("Get %02X %X, %d octets: %+v", a, l, len(rest), r)
				}
			}
		}
		want := api.ErrShort
		if a%2 == 0 {
			want = api.ErrMessage
		}
		for _, rest := range []string{"", "\x00", "\xfe", "\x03", "\xff" + value[:126]} {
			if r := get(octets(a) + rest); r != (reading{e: want}) {
				t.Fatalf("Get %02X %X: %+v", a, rest, r)
			}
		}
	}
}

// P10.2: tlv.Get's error comes ahead of what the value is: one of which octets are missing is short, whatever it would be.
func TestGetShortValue(t *testing.T) {
	for _, r := range table {
		for _, command := range bools {
			head := 4*r.octet + 1
			if command {
				head += 2
			}
			for n := 1; n <= 127; n++ {
				for _, there := range []int{0, n / 2, n - 1} {
					s := octets(head, 2*n+1) + bytesOf(there)
					if got := get(s); got != (reading{e: api.ErrShort}) {
						t.Fatalf("Get %X: %+v", s, got)
					}
				}
			}
		}
	}
}

// P10.2: a value, where the type has none.
func TestGetNoValue(t *testing.T) {
	for _, head := range []int{0xA1, 0xA3, 0x61, 0x63, 0xC1, 0xC3} {
		for n := 1; n <= 127; n++ {
			for _, value := range []string{bytesOf(n), strings.Repeat("\x00", n), strings.Repeat("\x01", n)} {
				if r := get(octets(head, 2*n+1) + value + "\xa3\x01"); r != (reading{e: api.ErrMessage}) {
					t.Fatalf("Get %02X with %d octets: %+v", head, n, r)
				}
			}
		}
	}
}

// P10.2: a PN's value is eight octets of parameters that may be, and none of another size.
func TestGetPN(t *testing.T) {
	for _, head := range []int{0x81, 0x83} {
		for v := range params() {
			long := v + v + bytesOf(111)
			for n := range 128 {
				want := reading{e: api.ErrMessage}
				if n == 8 {
					want = reading{msgs.Message{Kind: msgs.PN, Command: head == 0x83, PN: params()[v]}, 10, api.OK}
				}
				if r := get(octets(head, 2*n+1) + long[:n] + "behind"); r != want {
					t.Fatalf("Get %02X with %X: %+v, not %+v", head, long[:n], r, want)
				}
			}
			for at := range v {
				for b := range 256 {
					sameGet(t, octets(head, 17)+v[:at]+octets(b)+v[at+1:])
				}
			}
		}
		if r := get(octets(head, 17) + strings.Repeat("\x00", 8)); r != (reading{e: api.ErrMessage}) {
			t.Errorf("Get %02X with noughts: %+v", head, r)
		}
	}
}

// P10.2: an MSC's value is the two or three octets of a status, and no other ones.
func TestGetMSC(t *testing.T) {
	for _, head := range []int{0xE1, 0xE3} {
		for v, s := range statuses() {
			long := v + v + bytesOf(127)
			for n := range 128 {
				want := reading{e: api.ErrMessage}
				if n == len(v) {
					want = reading{msgs.Message{Kind: msgs.MSC, Command: head == 0xE3, MSC: s}, 2 + n, api.OK}
				}
				if r := get(octets(head, 2*n+1) + long[:n] + "behind"); r != want {
					t.Fatalf("Get %02X with %X: %+v, not %+v", head, long[:n], r, want)
				}
			}
		}
		for a := range 256 {
			sameGet(t, octets(head, 3, a))
			for b := range 256 {
				sameGet(t, octets(head, 5, a, b))
				sameGet(t, octets(head, 7, a, b, 0x53))
				sameGet(t, octets(head, 7, 0x07, a, b))
				sameGet(t, octets(head, 9, 0x0B, 0x02, a, b))
			}
		}
	}
}

// P10.2: an NSC's value is one octet, any one.
func TestGetNSC(t *testing.T) {
	for _, head := range []int{0x11, 0x13} {
		for n := range 128 {
			for _, value := range []string{bytesOf(n), strings.Repeat("\x00", n), strings.Repeat("\x3d", n)} {
				r := get(octets(head, 2*n+1) + value + "behind")
				want := reading{e: api.ErrMessage}
				if n == 1 {
					want = reading{msgs.Message{Kind: msgs.NSC, Command: head == 0x13, Type: value[0]}, 3, api.OK}
				}
				if r != want {
					t.Fatalf("Get %02X with %X: %+v, not %+v", head, value, r, want)
				}
			}
		}
		for b := range 256 {
			if r := get(octets(head, 3, b)); r != (reading{msgs.Message{Kind: msgs.NSC, Command: head == 0x13, Type: uint8(b)}, 3, api.OK}) {
				t.Fatalf("Get %02X with %02X: %+v", head, b, r)
			}
		}
	}
}

// P10.3: none, one and more, and behind them what is no message, or the beginning of one.
func TestAllExamples(t *testing.T) {
	on, test, unknown := msgs.Message{Kind: msgs.FCon, Command: true}, msgs.Message{Kind: msgs.Test, Bytes: "ab"}, msgs.Message{Kind: msgs.Unknown, Command: true, Type: 3}
	for _, x := range []struct {
		s    string
		want []msgs.Message
		size int
	}{
		{"", nil, 0},
		{"\xa3\x01", []msgs.Message{on}, 2},
		{"\xa3\x01\x21\x05ab", []msgs.Message{on, test}, 6},
		{"\x21\x05ab\xa3\x01\x0f\x01", []msgs.Message{test, on, unknown}, 8},
		{"\xa3\x01\xa3\x01\xa3\x01", []msgs.Message{on, on, on}, 6},
		{"\x00", nil, 0},
		{"\x00\xa3\x01", nil, 0},
		{"\xa3\x03x\xa3\x01", nil, 0},
		{"\xa3", nil, 0},
		{"\xa3\x01\x00\xa3\x01", []msgs.Message{on}, 2},
		{"\xa3\x01x", []msgs.Message{on}, 2},
		{"\xa3\x01\xa3", []msgs.Message{on}, 2},
		{"\x21\x05ab\x21\x05a", []msgs.Message{test}, 4},
		{"\x21\x05ab\x11\x01\xa3\x01", []msgs.Message{test}, 4},
		{"\x21\x05ab\x0f\x01\xe3\x03\x07\xa3\x01", []msgs.Message{test, unknown}, 6},
		{"\x21\x05ab\x0f\x01\x83\x0f1234567\xa3\x01", []msgs.Message{test, unknown}, 6},
	} {
		sameAll(t, x.s, x.want, x.size)
	}
}

// P10.3: one of each, cut at each octet: those that are whole.
func TestAllCut(t *testing.T) {
	w := written()
	s, l, ends := "", []msgs.Message(nil), []int{0}
	for _, one := range sorted(w) {
		s, l = s+one, append(l, w[one])
		ends = append(ends, len(s))
	}
	whole := 0
	for n := range len(s) + 1 {
		for whole < len(l) && ends[whole+1] <= n {
			whole++
		}
		sameAll(t, s[:n], l[:whole], ends[whole])
	}
}

// P10.3: what is no message, at each place among many.
func TestAllStops(t *testing.T) {
	w := written()
	for _, many := range []int{0, 1, 2, 5} {
		s, l := "", []msgs.Message(nil)
		for _, one := range sorted(w)[:many] {
			s, l = s+one, append(l, w[one])
		}
		for wrong, e := range wrongs() {
			sameAll(t, s+wrong, l, len(s))
			if e == api.ErrMessage {
				sameAll(t, s+wrong+s+"\xa3\x01", l, len(s))
			}
		}
	}
}

// P10.3: many messages, with nothing, and with what is none, behind.
func TestAllMany(t *testing.T) {
	w := written()
	texts := sorted(w)
	var s strings.Builder
	var l []msgs.Message
	for n := range 30000 {
		one := texts[n*7%len(texts)]
		s.WriteString(one)
		l = append(l, w[one])
	}
	sameAll(t, s.String(), l, s.Len())
	sameAll(t, s.String()+"\xa3", l, s.Len())
	sameAll(t, s.String()+"\xa3\x03x\xa3\x01", l, s.Len())
}

// P10.2 and P10.3: all texts of up to four of the octets of which something hangs are read as the chapter's words say it.
func TestAllTempting(t *testing.T) {
	tempting := []int{0x00, 0x01, 0x03, 0x05, 0x07, 0x0F, 0x11, 0x21, 0x83, 0x8D, 0xA3, 0xE3, 0xFF}
	texts := []string{""}
	for at := 0; at < len(texts); at++ {
		want, size := plainAll(texts[at])
		sameAll(t, texts[at], want, size)
		sameGet(t, texts[at])
		if len(texts[at]) < 4 {
			for _, b := range tempting {
				texts = append(texts, texts[at]+octets(b))
			}
		}
	}
}

// P10.4: of what may be the first octet that Put writes; of what has too many Bytes the one that it would have; of all else 0.
func TestOctet(t *testing.T) {
	for s, m := range written() {
		if o := msgs.Octet(m); o != s[0] {
			t.Errorf("Octet %+v: %02X, not %02X", m, o, s[0])
		}
	}
	for _, n := range []int{128, 300, 70000} {
		for want, m := range map[uint8]msgs.Message{
			0x21: {Kind: msgs.Test}, 0x23: {Kind: msgs.Test, Command: true}, 0x01: {Kind: msgs.Unknown},
			0x0F: {Kind: msgs.Unknown, Command: true, Type: 3}, 0xFF: {Kind: msgs.Unknown, Command: true, Type: 0x3F},
		} {
			m.Bytes = bytesOf(n)
			if o := msgs.Octet(m); o != want {
				t.Errorf("Octet of the Kind %d with %d Bytes: %02X, not %02X", m.Kind, n, o, want)
			}
		}
	}
	for _, m := range []msgs.Message{
		{}, {Command: true}, {Kind: 9}, {Kind: 255, Command: true}, {Kind: msgs.PN}, {Kind: msgs.MSC, MSC: msc.Status{DLCI: 64}},
		{Kind: msgs.FCon, Bytes: "x"}, {Kind: msgs.FCoff, Type: 1}, {Kind: msgs.Test, Type: 8}, {Kind: msgs.CLD, PN: pn.Params{K: 1}},
		{Kind: msgs.NSC, Bytes: "x"}, {Kind: msgs.Unknown, Type: 0x30}, {Kind: msgs.Unknown, Type: 0x40},
	} {
		if o := msgs.Octet(m); o != 0 {
			t.Errorf("Octet %+v: %02X", m, o)
		}
	}
}

// P10.5: of two readings of one text the lists are not the same memory, and the text may be read again.
func TestAllIsNew(t *testing.T) {
	s := "\x21\x05ab\xa3\x01\x0f\x03z"
	want := []msgs.Message{{Kind: msgs.Test, Bytes: "ab"}, {Kind: msgs.FCon, Command: true}, {Kind: msgs.Unknown, Command: true, Type: 3, Bytes: "z"}}
	one, _ := msgs.All(s)
	two, _ := msgs.All(s)
	clear(one)
	_ = append(one[:1], msgs.Message{Kind: msgs.CLD})
	_ = append(one, msgs.Message{Kind: msgs.CLD})
	if !slices.Equal(two, want) {
		t.Errorf("what was answered has changed: %+v", two)
	}
	sameAll(t, s, want, 9)
}

// P10.5: what is handed in is as it was, and the same calls answer the same again.
func TestSameAgain(t *testing.T) {
	w := written()
	for _, s := range sorted(w) {
		m := w[s]
		for range 3 {
			if got, e := msgs.Put(m); got != s || e != api.OK || m != w[s] {
				t.Fatalf("Put %+v: %X, %v", m, got, e)
			}
			r := get(s)
			if r != (reading{w[s], len(s), api.OK}) {
				t.Fatalf("Get %X: %+v", s, r)
			}
			r.PN.K, r.MSC.DLCI, r.Type, r.Bytes = 9, 9, 9, "9"
			refused(t, msgs.Message{Kind: 9})
			if r := get("\xa3\x03x"); r != (reading{e: api.ErrMessage}) {
				t.Fatalf("Get: %+v", r)
			}
		}
	}
}

// heap is how many bytes are in use when all that nobody keeps has gone.
func heap() int {
	var m runtime.MemStats
	runtime.GC()
	runtime.GC()
	runtime.ReadMemStats(&m)
	return int(m.HeapAlloc)
}

// P10.5: what is got shares no memory with the text that it was got from: little of a great text is kept by a message out of it.
func TestGetKeepsNothing(t *testing.T) {
	const great, many = 1 << 20, 40
	var kept []msgs.Message
	before := heap()
	for n := range many {
		s := "\x21\x05ab" + strings.Repeat(octets(n|1), great)
		if n%4 == 3 {
			s = "\x0d\x05ab" + s[4:]
		}
		if n%2 == 0 {
			kept = append(kept, get(s).Message)
			continue
		}
		all, _ := msgs.All(s[:4] + strings.Repeat("\x00", great))
		kept = append(kept, all[0])
	}
	if grown := heap() - before; grown > great*many/4 {
		t.Errorf("%d messages with two Bytes keep %d bytes", len(kept), grown)
	}
	for _, m := range kept {
		if m.Bytes != "ab" {
			t.Fatalf("%+v is kept", m)
		}
	}
}

// P10.5: what is put shares no memory with the message's own Bytes.
func TestPutKeepsNothing(t *testing.T) {
	const great, many = 1 << 20, 40
	var kept []string
	before := heap()
	for n := range many {
		s := strings.Repeat(octets(n|1), great)
		put, _ := msgs.Put(msgs.Message{Kind: msgs.Test, Bytes: s[:n]})
		kept = append(kept, put)
	}
	if grown := heap() - before; grown > great*many/4 {
		t.Errorf("%d messages keep %d bytes", len(kept), grown)
	}
	for n, s := range kept {
		if s != octets(0x21, 2*n+1)+strings.Repeat(octets(n|1), n) {
			t.Fatalf("%X is kept", s)
		}
	}
}

// all are many messages that may be put: of each Kind, type and size.
func all() (l []msgs.Message) {
	w := written()
	for _, s := range sorted(w) {
		l = append(l, w[s])
	}
	for n := range 256 {
		command := n%2 == 0
		l = append(l, msgs.Message{Kind: msgs.NSC, Command: command, Type: uint8(n)})
		if n < 64 && !inTable(n) {
			l = append(l, msgs.Message{Kind: msgs.Unknown, Command: command, Type: uint8(n), Bytes: bytesOf(2 * n)})
		}
		if n < 128 {
			l = append(l, msgs.Message{Kind: msgs.Test, Command: command, Bytes: bytesOf(n)})
		}
		if n < 64 {
			s := msc.Status{DLCI: uint8(n), FC: n%3 == 0, DV: n%5 == 0}
			if n < 16 {
				s.HasBreak, s.Break = true, uint8(n)
			}
			l = append(l, msgs.Message{Kind: msgs.MSC, Command: command, MSC: s})
		}
		if n > 0 && n < 64 {
			l = append(l, msgs.Message{Kind: msgs.PN, Command: command, PN: pn.Params{DLCI: uint8(n), Frame: uint8(n % 3), CL: uint8(n % 4), Priority: uint8(n), T1: 4 * n, N1: 1000 * n, N2: 3 * n, K: 1 + n%7}})
		}
	}
	return l
}

// P10.6: what is put is got as it was, whatever stands behind it.
func TestPutIsGot(t *testing.T) {
	for _, m := range all() {
		s, e := msgs.Put(m)
		if e != api.OK {
			t.Fatalf("Put %+v: %v", m, e)
		}
		for _, behind := range []string{"", "\x00", "\x01", "\x22", "\xff", "\xa3\x01", "\x21\x05a", s, strings.Repeat("\xfe", 300)} {
			if r := get(s + behind); r != (reading{m, len(s), api.OK}) {
				t.Fatalf("%+v is put as %X, and with %X behind got as %+v", m, s, behind, r)
			}
		}
	}
}

// P10.6: what is got is put as it was; and it may be.
func TestGotIsPut(t *testing.T) {
	got := map[uint8]int{}
	for a := range 256 {
		for b := range 256 {
			for _, rest := range []string{"\x05\x32\x07\x0a\x2c\x01\x03\x02" + bytesOf(200), "\x07\x8d" + bytesOf(200), "\x0b\x02\x53" + bytesOf(200)} {
				s := octets(a, b) + rest
				r := get(s)
				if r.e != api.OK {
					continue
				}
				got[r.Kind]++
				if again, e := msgs.Put(r.Message); again != s[:r.size] || e != api.OK || !msgs.May(r.Message) || msgs.Octet(r.Message) != s[0] {
					t.Fatalf("%X is got as %+v, and put as %X, %v", s, r, again, e)
				}
			}
		}
	}
	want := map[uint8]int{msgs.PN: 2, msgs.MSC: 4, msgs.FCon: 6, msgs.FCoff: 6, msgs.Test: 2 * 128 * 3, msgs.CLD: 6, msgs.NSC: 6, msgs.Unknown: 57 * 2 * 128 * 3}
	if !maps.Equal(got, want) {
		t.Errorf("messages by their Kinds: %v, not %v", got, want)
	}
}

// P10.6: no two messages are put alike.
func TestEachIsPutApart(t *testing.T) {
	seen := map[string]msgs.Message{}
	for _, m := range all() {
		s, _ := msgs.Put(m)
		if other, twice := seen[s]; twice && other != m {
			t.Fatalf("%+v and %+v are both put as %X", m, other, s)
		}
		seen[s] = m
	}
}

// P10.6: messages that are put one behind the other are all got so: in all orders of a few, and all at once.
func TestPutIsAllGot(t *testing.T) {
	put := func(l []msgs.Message) (s string) {
		for _, m := range l {
			one, e := msgs.Put(m)
			if e != api.OK {
				t.Fatalf("Put %+v: %v", m, e)
			}
			s += one
		}
		return s
	}
	few := []msgs.Message{
		{Kind: msgs.FCon, Command: true}, {Kind: msgs.Unknown, Bytes: bytesOf(127)}, {Kind: msgs.NSC, Type: 0xA2},
		{Kind: msgs.MSC, MSC: msc.Status{HasBreak: true}}, {Kind: msgs.Test, Command: true, Bytes: "\x23\x05ab"},
	}
	rows := [][]msgs.Message{nil}
	for at := 0; at < len(rows); at++ {
		s := put(rows[at])
		sameAll(t, s, rows[at], len(s))
		sameAll(t, s+"\xa3\x03x", rows[at], len(s))
		if len(rows[at]) < 4 {
			for _, m := range few {
				rows = append(rows, append(slices.Clone(rows[at]), m))
			}
		}
	}
	s := put(all())
	sameAll(t, s, all(), len(s))
}
