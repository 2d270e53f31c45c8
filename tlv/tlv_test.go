package tlv_test

import (
	"runtime"
	"slices"
	"strings"
	"testing"

	"partyline/api"
	"partyline/ea"
	"partyline/tlv"
)

var (
	bools = []bool{false, true}
	// sizes are of values that may be: no, one, a few octets, and the most.
	sizes = []int{0, 1, 2, 5, 63, 64, 125, 126, 127}
	// tooLong are sizes of values that may not be, some whose low bits look as if they might.
	tooLong = []int{128, 129, 130, 255, 256, 257, 383, 384, 32767, 32768, 32769, 65536, 65541, 1 << 20}
	// behinds are what may stand behind a message.
	behinds = []string{"", "\x00", "\x01", "\x22", "\x23", "\xff", "ab", "\x23\x05ab", "\x23\x05a", strings.Repeat("\xfe", 300)}
)

// A reading is all that Get answers.
type reading struct {
	tlv.Item
	size int
	e    api.Errno
}

func get(s string) reading {
	kind, command, value, size, e := tlv.Get(s)
	return reading{tlv.Item{Kind: kind, Command: command, Value: value}, size, e}
}

func put(t *testing.T, i tlv.Item) string {
	t.Helper()
	s, e := tlv.Put(i.Kind, i.Command, i.Value)
	if e != api.OK {
		t.Fatalf("Put %+v: %v", i, e)
	}
	return s
}

// plainPut writes a message as the chapter's words say it, by numbers.
func plainPut(i tlv.Item) string {
	octet := 4 * int(i.Kind)
	if i.Command {
		octet += 2
	}
	return string([]byte{byte(octet + 1), byte(2*len(i.Value) + 1)}) + i.Value
}

// plainGet reads a message octet by octet, as the chapter's words say it: lengths that are two octets long are above 127, or not written so.
func plainGet(s string) reading {
	for n := range len(s) {
		switch {
		case n == 0 && s[0]%2 == 0, n == 2 && s[1]%2 == 0:
			return reading{e: api.ErrMessage}
		case n == 0 || s[1]%2 == 0 || n+1 < 2+int(s[1]/2):
			continue
		}
		return reading{tlv.Item{Kind: s[0] / 4, Command: s[0]/2%2 == 1, Value: s[2 : n+1]}, n + 1, api.OK}
	}
	return reading{e: api.ErrShort}
}

// plainAll reads all messages by plainGet.
func plainAll(s string) (items []tlv.Item, ahead int, e api.Errno) {
	for at := 0; at < len(s); {
		r := plainGet(s[at:])
		if r.e != api.OK {
			return nil, at, r.e
		}
		items = append(items, r.Item)
		at += r.size
	}
	return items, 0, api.OK
}

// octets are n octets, none like the one ahead of it, among them even ones, odd ones and such as would be of no rune.
func octets(n int) string {
	s := make([]byte, n)
	for i := range s {
		s[i] = byte(37*i + n + 200)
	}
	return string(s)
}

// items are messages of all types, commands and responses, with values of all the sizes.
func items() (l []tlv.Item) {
	for kind := range 64 {
		for _, command := range bools {
			for _, n := range sizes {
				l = append(l, tlv.Item{Kind: uint8(kind), Command: command, Value: octets(n)})
			}
		}
	}
	return l
}

// P7.1: all types, commands and responses, values of all sizes.
func TestPut(t *testing.T) {
	for _, i := range items() {
		if s, e := tlv.Put(i.Kind, i.Command, i.Value); s != plainPut(i) || e != api.OK {
			t.Errorf("Put %+v: %X, %v", i, s, e)
		}
	}
	for n := range 128 {
		i := tlv.Item{Kind: uint8(n) / 2, Command: n%2 == 0, Value: octets(n)}
		if s, e := tlv.Put(i.Kind, i.Command, i.Value); s != plainPut(i) || e != api.OK {
			t.Errorf("Put %+v: %X, %v", i, s, e)
		}
	}
}

// P7.1: the chapter's examples, and the edges by hand.
func TestPutExamples(t *testing.T) {
	for _, x := range []struct {
		kind    uint8
		command bool
		value   string
		want    string
		e       api.Errno
	}{
		{8, true, "ab", "\x23\x05ab", api.OK},
		{8, false, "ab", "\x21\x05ab", api.OK},
		{0, false, "", "\x01\x01", api.OK},
		{0, true, "", "\x03\x01", api.OK},
		{63, false, "", "\xfd\x01", api.OK},
		{63, true, "\x00", "\xff\x03\x00", api.OK},
		{31, true, octets(126), "\x7f\xfd" + octets(126), api.OK},
		{32, true, octets(127), "\x83\xff" + octets(127), api.OK},
		{64, true, "ab", "", api.ErrArg},
		{64, false, "", "", api.ErrArg},
		{255, true, "", "", api.ErrArg},
		{63, true, octets(128), "", api.ErrLimit},
		{0, false, octets(128), "", api.ErrLimit},
		{64, true, octets(128), "", api.ErrArg},
		{255, false, octets(5000), "", api.ErrArg},
	} {
		if s, e := tlv.Put(x.kind, x.command, x.value); s != x.want || e != x.e {
			t.Errorf("Put(%d, %t, %X): %X, %v", x.kind, x.command, x.value, s, e)
		}
	}
}

// P7.1: a type that there is not comes ahead of a value that is too long, and with an error there is no message.
func TestPutWrong(t *testing.T) {
	for kind := range 256 {
		for _, command := range bools {
			for _, n := range append(tooLong, sizes...) {
				want := api.OK
				switch {
				case kind > 63:
					want = api.ErrArg
				case n > 127:
					want = api.ErrLimit
				}
				s, e := tlv.Put(uint8(kind), command, octets(n))
				if e != want || (s == "") != (want != api.OK) {
					t.Fatalf("Put(%d, %t, %d octets): %X, %v, not %v", kind, command, n, s, e, want)
				}
			}
		}
	}
}

// P7.2: the chapter's examples, and the edges that it names.
func TestGetExamples(t *testing.T) {
	short, none := reading{e: api.ErrShort}, reading{e: api.ErrMessage}
	for _, x := range []struct {
		s    string
		want reading
	}{
		{"\x23\x05a", short},
		{"\x22\x01", none},
		{"\x23\x01x", reading{tlv.Item{Kind: 8, Command: true}, 2, api.OK}},
		{"\x23\x05ab", reading{tlv.Item{Kind: 8, Command: true, Value: "ab"}, 4, api.OK}},
		{"\x21\x05abc", reading{tlv.Item{Kind: 8, Value: "ab"}, 4, api.OK}},
		{"\x01\x01", reading{tlv.Item{}, 2, api.OK}},
		{"\xff\x03\x00\x00", reading{tlv.Item{Kind: 63, Command: true, Value: "\x00"}, 3, api.OK}},
		{"", short},
		{"\x23", short},     // no length
		{"\x23\x00", short}, // half a length, whatever it may become
		{"\x23\x04", short},
		{"\x23\xfe", short},
		{"\x23\x05", short}, // a length that says more than stands behind
		{"\x23\xff" + octets(126), short},
		{"\x00", none},
		{"\x22", none},
		{"\xfe", none},
		{"\x22\x00", none},
		{"\x22\x05a", none},
		{"\x23\x00\x00", none},   // 0, in two octets
		{"\x23\x04\x00ab", none}, // 2, in two octets
		{"\x23\xfe\x00", none},   // 127, in two octets, nothing behind it
		{"\x23\xfe\x00" + octets(127), none},
		{"\x23\x00\x01", none}, // 128, nothing behind it
		{"\x23\x00\x01" + octets(5), none},
		{"\x23\x00\x01" + octets(128), none},
		{"\x23\x02\x01" + octets(129), none},
		{"\x23\xfe\xff", none},
		{"\x23\xfe\xff" + octets(32767), none},
		{"\x23\xff" + octets(127), reading{tlv.Item{Kind: 8, Command: true, Value: octets(127)}, 129, api.OK}},
	} {
		if r := get(x.s); r != x.want {
			t.Errorf("Get(%X): %+v, not %+v", x.s, r, x.want)
		}
	}
}

// P7.2: each pair and many triples of octets at the beginning, with nothing, too little, enough and more behind.
func TestGetAllHeads(t *testing.T) {
	rests := []string{"", "\x00", "\x01", "\x02", "\xff", octets(126), octets(127), octets(128), octets(400)}
	for a := range 256 {
		if s := string([]byte{byte(a)}); get(s) != plainGet(s) {
			t.Fatalf("Get(%X): %+v, not %+v", s, get(s), plainGet(s))
		}
		for b := range 256 {
			for _, rest := range rests {
				s := string([]byte{byte(a), byte(b)}) + rest
				if r, want := get(s), plainGet(s); r != want {
					t.Fatalf("Get(%X): %+v, not %+v", s, r, want)
				}
			}
		}
	}
}

// P7.2: each length in two octets is none, once its last octet is there, whether its value is or not.
func TestGetLongLengths(t *testing.T) {
	value := octets(33000)
	for first := 0; first < 256; first += 2 {
		half := "\x23" + string([]byte{byte(first)})
		if r := get(half); r != (reading{e: api.ErrShort}) {
			t.Fatalf("Get(%X): %+v", half, r)
		}
		for second := range 256 {
			length := half + string([]byte{byte(second)})
			for _, s := range []string{length, length + "\x01", length + value} {
				if r := get(s); r != (reading{e: api.ErrMessage}) {
					t.Fatalf("Get(%X ..%d octets): %+v", length, len(s), r)
				}
			}
		}
	}
}

// P7.2: a message that is cut ahead of any of its octets is short.
func TestGetCut(t *testing.T) {
	for _, i := range items() {
		s := put(t, i)
		for n := range len(s) {
			if r := get(s[:n]); r != (reading{e: api.ErrShort}) {
				t.Fatalf("Get(%X), cut from %X: %+v", s[:n], s, r)
			}
		}
	}
}

// P7.2: a type octet whose lowest bit is 0 is none, whatever stands behind it.
func TestGetEvenType(t *testing.T) {
	for a := 0; a < 256; a += 2 {
		for _, rest := range append(behinds, "\x01", "\x05ab", "\x00\x01", "\x04", "\x04\x00ab") {
			if r := get(string([]byte{byte(a)}) + rest); r != (reading{e: api.ErrMessage}) {
				t.Fatalf("Get(%02X %X): %+v", a, rest, r)
			}
		}
	}
}

func sameAll(t *testing.T, s string, want []tlv.Item, wantAhead int, wantE api.Errno) {
	t.Helper()
	got, ahead, e := tlv.All(s)
	if !slices.Equal(got, want) || ahead != wantAhead || e != wantE {
		t.Fatalf("All(%X): %+v, %d, %v, not %+v, %d, %v", s, got, ahead, e, want, wantAhead, wantE)
	}
}

// P7.3: none, one and more messages, and what is none first, in the middle and last.
func TestAllExamples(t *testing.T) {
	ab, end := tlv.Item{Kind: 8, Command: true, Value: "ab"}, tlv.Item{Kind: 63}
	for _, x := range []struct {
		s     string
		want  []tlv.Item
		ahead int
		e     api.Errno
	}{
		{"", nil, 0, api.OK},
		{"\x23\x05ab", []tlv.Item{ab}, 0, api.OK},
		{"\xfd\x01", []tlv.Item{end}, 0, api.OK},
		{"\x23\x05ab\xfd\x01", []tlv.Item{ab, end}, 0, api.OK},
		{"\xfd\x01\x23\x05ab\xfd\x01", []tlv.Item{end, ab, end}, 0, api.OK},
		{"\x23", nil, 0, api.ErrShort},
		{"\x22", nil, 0, api.ErrMessage},
		{"\x22\x05ab\xfd\x01", nil, 0, api.ErrMessage},
		{"\x23\x04\x00ab\xfd\x01", nil, 0, api.ErrMessage},
		{"\xfd\x01\x22\x05ab\xfd\x01", nil, 2, api.ErrMessage},
		{"\x23\x05ab\x23\x00\x01\xfd\x01", nil, 4, api.ErrMessage},
		{"\x23\x01\x22", nil, 2, api.ErrMessage},
		{"\x23\x05ab\xfd\x01\x00", nil, 6, api.ErrMessage},
		{"\x23\x05ab\xfd", nil, 4, api.ErrShort},
		{"\x23\x05ab\xfd\x00", nil, 4, api.ErrShort},
		{"\xfd\x01\x23\x05ab\xfd\x03", nil, 6, api.ErrShort},
		{"\x23\x07ab\x22", []tlv.Item{{Kind: 8, Command: true, Value: "ab\x22"}}, 0, api.OK},
	} {
		sameAll(t, x.s, x.want, x.ahead, x.e)
	}
}

// P7.3: messages one behind the other, cut at each octet: all, where a message ends; else what stands ahead of the one that is cut.
func TestAllCut(t *testing.T) {
	l := []tlv.Item{
		{Kind: 8, Command: true, Value: "ab"}, {}, {Kind: 63, Value: octets(127)}, {Kind: 1, Command: true, Value: "\x00"},
		{Kind: 62, Command: true}, {Kind: 62, Command: true}, {Kind: 5, Value: octets(126)}, {Kind: 6, Value: "\x23\x05ab"},
	}
	s, ends := "", []int{0}
	for _, i := range l {
		s += put(t, i)
		ends = append(ends, len(s))
	}
	for n := range len(s) + 1 {
		whole := 0
		for whole+1 < len(ends) && ends[whole+1] <= n {
			whole++
		}
		if ends[whole] == n {
			sameAll(t, s[:n], l[:whole], 0, api.OK)
		} else {
			sameAll(t, s[:n], nil, ends[whole], api.ErrShort)
		}
	}
}

// P7.3: one that is none, at each place among many, of each kind of fault.
func TestAllNone(t *testing.T) {
	wrong := []string{"\x00", "\x22", "\xfe\x01", "\x23\x00\x00", "\x23\x04\x00ab", "\x23\x00\x01", "\x23\xfe\xff", "\x23\xfe\x00"}
	for _, many := range []int{1, 2, 3, 10} {
		for at := range many {
			for _, w := range wrong {
				s, ahead := "", 0
				for n := range many {
					if n == at {
						s, ahead = s+w, len(s)
					} else {
						s += put(t, tlv.Item{Kind: uint8(n), Command: n%2 == 0, Value: octets(n)})
					}
				}
				sameAll(t, s, nil, ahead, api.ErrMessage)
			}
		}
	}
}

// P7.3: many messages; the same ones with an octet behind them.
func TestAllMany(t *testing.T) {
	var s strings.Builder
	var l []tlv.Item
	for n := range 30000 {
		i := tlv.Item{Kind: uint8(n % 64), Command: n%3 == 0, Value: octets(n % 128)}
		l = append(l, i)
		s.WriteString(put(t, i))
	}
	sameAll(t, s.String(), l, 0, api.OK)
	sameAll(t, s.String()+"\x23", nil, s.Len(), api.ErrShort)
	sameAll(t, s.String()+"\x24", nil, s.Len(), api.ErrMessage)
}

// P7.3: all texts of up to four of the octets of which something hangs are read as the chapter's words say it.
func TestAllTempting(t *testing.T) {
	tempting := []byte{0x00, 0x01, 0x02, 0x03, 0x04, 0x05, 0x22, 0x23, 0xFD, 0xFE, 0xFF, 'a'}
	texts := []string{""}
	for at := 0; at < len(texts); at++ {
		want, ahead, e := plainAll(texts[at])
		sameAll(t, texts[at], want, ahead, e)
		if r, want := get(texts[at]), plainGet(texts[at]); r != want {
			t.Fatalf("Get(%X): %+v, not %+v", texts[at], r, want)
		}
		if len(texts[at]) < 4 {
			for _, b := range tempting {
				texts = append(texts, texts[at]+string([]byte{b}))
			}
		}
	}
}

// P7.4: of two readings of one text the lists are not the same memory.
func TestAllIsNew(t *testing.T) {
	s := "\x23\x05ab\xfd\x01"
	one, _, _ := tlv.All(s)
	two, _, _ := tlv.All(s)
	one[0], one[1] = tlv.Item{}, tlv.Item{}
	_ = append(one[:1], tlv.Item{Kind: 7})
	if !slices.Equal(two, []tlv.Item{{Kind: 8, Command: true, Value: "ab"}, {Kind: 63}}) {
		t.Errorf("what was answered has changed: %+v", two)
	}
	sameAll(t, s, []tlv.Item{{Kind: 8, Command: true, Value: "ab"}, {Kind: 63}}, 0, api.OK)
}

// heap is how many bytes are in use when all that nobody keeps has gone.
func heap() int {
	var m runtime.MemStats
	runtime.GC()
	runtime.GC()
	runtime.ReadMemStats(&m)
	return int(m.HeapAlloc)
}

// P7.4: what is got shares no memory with the text that it was got from: little of a great text is kept by a message out of it.
func TestGetKeepsNothing(t *testing.T) {
	const great, many = 1 << 20, 40
	var kept []string
	before := heap()
	for n := range many {
		s := "\x23\x05ab" + strings.Repeat(string([]byte{byte(n) | 1}), great)
		if n%2 == 0 {
			kept = append(kept, get(s).Value)
			continue
		}
		s = strings.Repeat("\x23\x05ab", great/4)
		all, _, _ := tlv.All(s)
		kept = append(kept, all[len(all)-1].Value)
	}
	if grown := heap() - before; grown > great*many/4 {
		t.Errorf("%d values of two octets keep %d bytes", len(kept), grown)
	}
	for _, v := range kept {
		if v != "ab" {
			t.Fatalf("%X is kept", v)
		}
	}
}

// P7.5: what is put is got as it was, whatever stands behind it.
func TestPutIsGot(t *testing.T) {
	for _, i := range items() {
		s := put(t, i)
		for _, behind := range behinds {
			if r := get(s + behind); r != (reading{i, len(s), api.OK}) {
				t.Fatalf("%+v is put as %X, and with %X behind got as %+v", i, s, behind, r)
			}
		}
	}
}

// P7.5: what is got is put as it was.
func TestGotIsPut(t *testing.T) {
	rest := octets(200)
	got := 0
	for a := range 256 {
		for b := range 256 {
			s := string([]byte{byte(a), byte(b)}) + rest
			r := get(s)
			if r.e != api.OK {
				continue
			}
			got++
			if again := put(t, r.Item); again != s[:r.size] {
				t.Fatalf("%X is got as %+v, and put as %X", s, r, again)
			}
		}
	}
	if got != 128*128 {
		t.Errorf("%d of the heads are of messages, not %d", got, 128*128)
	}
}

// P7.5: messages that are put one behind the other are all got so, in all orders of a few, and of nothing.
func TestPutIsAllGot(t *testing.T) {
	few := []tlv.Item{{}, {Kind: 63, Command: true, Value: octets(127)}, {Kind: 8, Value: "\x00"}, {Kind: 8, Command: true, Value: "\x23\x05ab"}}
	rows := [][]tlv.Item{nil}
	for at := 0; at < len(rows); at++ {
		s := ""
		for _, i := range rows[at] {
			s += put(t, i)
		}
		sameAll(t, s, rows[at], 0, api.OK)
		if len(rows[at]) < 4 {
			for _, i := range few {
				rows = append(rows, append(slices.Clone(rows[at]), i))
			}
		}
	}
	s := ""
	for _, i := range items() {
		s += put(t, i)
	}
	sameAll(t, s, items(), 0, api.OK)
}

// P7.1 and P7.2: the length of a value is what ea.Length writes.
func TestLengthIsOfLayer2(t *testing.T) {
	for n := range 128 {
		if s := put(t, tlv.Item{Value: octets(n)}); s[1:len(s)-n] != ea.Length(n) {
			t.Errorf("of %d octets: %X, not %X", n, s[1:len(s)-n], ea.Length(n))
		}
	}
}
