package msc_test

import (
	"slices"
	"strings"
	"testing"

	"partyline/api"
	"partyline/msc"
)

// A signal is one of the five: what the chapter's words say it adds to the octet, and where it stands in a status.
type signal struct {
	name string
	adds int
	of   func(s *msc.Status) *bool
}

var signals = []signal{
	{"FC", 0x02, func(s *msc.Status) *bool { return &s.FC }},
	{"RTC", 0x04, func(s *msc.Status) *bool { return &s.RTC }},
	{"RTR", 0x08, func(s *msc.Status) *bool { return &s.RTR }},
	{"IC", 0x40, func(s *msc.Status) *bool { return &s.IC }},
	{"DV", 0x80, func(s *msc.Status) *bool { return &s.DV }},
}

// sets are how many sets of the five signals there are; a set is a number of as many bits.
const sets = 1 << 5

// with is s with just the signals of the set.
func with(s msc.Status, set int) msc.Status {
	for at, x := range signals {
		*x.of(&s) = set>>at&1 == 1
	}
	return s
}

// plainBits adds up what each signal adds.
func plainBits(s msc.Status) int {
	sum := 1
	for _, x := range signals {
		if *x.of(&s) {
			sum += x.adds
		}
	}
	return sum
}

// plainPut writes octets as the chapter's words say them, by numbers.
func plainPut(s msc.Status) (string, api.Errno) {
	address, bits := 4*int(s.DLCI)+3, plainBits(s)
	switch {
	case s.DLCI > 63, s.Break > 15, !s.HasBreak && s.Break > 0:
		return "", api.ErrArg
	case s.HasBreak:
		return octets(address, bits-1, 3+16*int(s.Break)), api.OK
	}
	return octets(address, bits), api.OK
}

// octets are numbers as octets.
func octets(l ...int) string {
	var s []byte
	for _, n := range l {
		s = append(s, byte(n))
	}
	return string(s)
}

// all are all statuses that there are.
func all() (l []msc.Status) {
	for d := range 64 {
		for set := range sets {
			s := with(msc.Status{DLCI: uint8(d)}, set)
			l = append(l, s)
			for b := range 16 {
				s.HasBreak, s.Break = true, uint8(b)
				l = append(l, s)
			}
		}
	}
	return l
}

// written are all statuses by their octets.
func written(t *testing.T) map[string]msc.Status {
	m := map[string]msc.Status{}
	for _, s := range all() {
		v, e := plainPut(s)
		if _, twice := m[v]; e != api.OK || twice {
			t.Fatalf("%+v: %X, %v", s, v, e)
		}
		m[v] = s
	}
	return m
}

// plainGet looks octets up among those that there are; short are those that end ahead of a status's end.
func plainGet(m map[string]msc.Status, v string) (msc.Status, api.Errno) {
	if len(v) < 2 || len(v) == 2 && v[1]%2 == 0 {
		return msc.Status{}, api.ErrShort
	}
	s, ok := m[v]
	if !ok {
		return msc.Status{}, api.ErrMessage
	}
	return s, api.OK
}

// samePut holds Put and Bits of s against the plain ones.
func samePut(t *testing.T, s msc.Status) {
	t.Helper()
	want, wantE := plainPut(s)
	if v, e := msc.Put(s); v != want || e != wantE {
		t.Fatalf("Put %+v: %X, %v, not %X, %v", s, v, e, want, wantE)
	}
	if b := msc.Bits(s); int(b) != plainBits(s) {
		t.Fatalf("Bits %+v: %02X, not %02X", s, b, plainBits(s))
	}
}

// sameGet holds Get of v against the plain one.
func sameGet(t *testing.T, m map[string]msc.Status, v string) {
	t.Helper()
	want, wantE := plainGet(m, v)
	if s, e := msc.Get(v); s != want || e != wantE {
		t.Fatalf("Get %X: %+v, %v, not %+v, %v", v, s, e, want, wantE)
	}
}

// edges are octets at bounds, and with all bits that say nothing, or with one.
func edges() []int {
	return []int{0x00, 0x01, 0x02, 0x03, 0x04, 0x05, 0x07, 0x0B, 0x0F, 0x10, 0x11, 0x13, 0x20, 0x21, 0x30, 0x31, 0x33, 0x3F, 0x40, 0x53, 0x7F, 0x80, 0x8D, 0x9D, 0xCE, 0xCF, 0xF3, 0xF9, 0xFB, 0xFD, 0xFE, 0xFF}
}

// bases are octets of statuses: with and without a break, at bounds and within.
func bases() []string {
	return []string{"\x07\x8d", "\x03\x01", "\xff\xcf", "\xfb\x41", "\x0b\x02\x53", "\x03\x00\x03", "\xff\xce\xf3", "\x17\x8c\x13"}
}

// P9.1: the chapter's examples, each signal alone and all together, breaks at their bounds, by hand.
func TestPutExamples(t *testing.T) {
	for _, x := range []struct {
		s    msc.Status
		want string
	}{
		{msc.Status{DLCI: 1, RTC: true, RTR: true, DV: true}, "\x07\x8d"},
		{msc.Status{DLCI: 2, FC: true, HasBreak: true, Break: 5}, "\x0b\x02\x53"},
		{msc.Status{}, "\x03\x01"},
		{msc.Status{DLCI: 62}, "\xfb\x01"},
		{msc.Status{DLCI: 63}, "\xff\x01"},
		{msc.Status{DLCI: 1, FC: true}, "\x07\x03"},
		{msc.Status{DLCI: 1, RTC: true}, "\x07\x05"},
		{msc.Status{DLCI: 1, RTR: true}, "\x07\x09"},
		{msc.Status{DLCI: 1, IC: true}, "\x07\x41"},
		{msc.Status{DLCI: 1, DV: true}, "\x07\x81"},
		{msc.Status{DLCI: 1, FC: true, RTC: true, RTR: true, IC: true, DV: true}, "\x07\xcf"},
		{msc.Status{HasBreak: true}, "\x03\x00\x03"},
		{msc.Status{DLCI: 1, HasBreak: true, Break: 1}, "\x07\x00\x13"},
		{msc.Status{DLCI: 1, HasBreak: true, Break: 8}, "\x07\x00\x83"},
		{msc.Status{DLCI: 1, HasBreak: true, Break: 15}, "\x07\x00\xf3"},
		{msc.Status{DLCI: 63, FC: true, RTC: true, RTR: true, IC: true, DV: true, HasBreak: true, Break: 15}, "\xff\xce\xf3"},
		{msc.Status{DLCI: 5, RTC: true, RTR: true, DV: true, HasBreak: true}, "\x17\x8c\x03"},
	} {
		if v, e := msc.Put(x.s); v != x.want || e != api.OK {
			t.Errorf("Put %+v: %X, %v, not %X", x.s, v, e, x.want)
		}
	}
}

// P9.1: what is no status, by hand: no such channel, a break that is too long, a length where there is no break.
func TestPutWrong(t *testing.T) {
	for _, x := range []msc.Status{
		{DLCI: 64}, {DLCI: 65}, {DLCI: 127}, {DLCI: 128}, {DLCI: 129}, {DLCI: 192}, {DLCI: 255}, {DLCI: 64, HasBreak: true}, {DLCI: 64, HasBreak: true, Break: 5},
		{HasBreak: true, Break: 16}, {HasBreak: true, Break: 17}, {HasBreak: true, Break: 32}, {HasBreak: true, Break: 128}, {HasBreak: true, Break: 255},
		{Break: 1}, {Break: 2}, {Break: 15}, {Break: 16}, {Break: 128}, {Break: 240}, {Break: 255}, {DLCI: 64, Break: 1}, {DLCI: 255, HasBreak: true, Break: 255},
	} {
		for set := range sets {
			s := with(x, set)
			if v, e := msc.Put(s); v != "" || e != api.ErrArg {
				t.Errorf("Put %+v: %X, %v", s, v, e)
			}
		}
	}
}

// P9.1 and P9.3: each status, and all that is none: all channels, signals, and breaks, with HasBreak and without.
func TestPut(t *testing.T) {
	for d := range 256 {
		for b := range 256 {
			for set := range sets {
				s := with(msc.Status{DLCI: uint8(d), Break: uint8(b)}, set)
				samePut(t, s)
				s.HasBreak = true
				samePut(t, s)
			}
		}
	}
}

// P9.2: the chapter's examples, and the edges by hand.
func TestGetExamples(t *testing.T) {
	for _, x := range []struct {
		v    string
		want msc.Status
		e    api.Errno
	}{
		{"\x07\x8d", msc.Status{DLCI: 1, RTC: true, RTR: true, DV: true}, api.OK},
		{"\x0b\x02\x53", msc.Status{DLCI: 2, FC: true, HasBreak: true, Break: 5}, api.OK},
		{"\x03\x01", msc.Status{}, api.OK},
		{"\x03\x00\x03", msc.Status{HasBreak: true}, api.OK},
		{"\xfb\x41", msc.Status{DLCI: 62, IC: true}, api.OK},
		{"\xff\xcf", msc.Status{DLCI: 63, FC: true, RTC: true, RTR: true, IC: true, DV: true}, api.OK},
		{"\xff\xce\xf3", msc.Status{DLCI: 63, FC: true, RTC: true, RTR: true, IC: true, DV: true, HasBreak: true, Break: 15}, api.OK},
		{"", msc.Status{}, api.ErrShort},
		{"\x07", msc.Status{}, api.ErrShort},
		{"\x06", msc.Status{}, api.ErrShort}, // that it ends is asked ahead of what it is
		{"\x05", msc.Status{}, api.ErrShort},
		{"\x07\x02", msc.Status{}, api.ErrShort},
		{"\x07\x00", msc.Status{}, api.ErrShort},
		{"\x06\x02", msc.Status{}, api.ErrShort},
		{"\x07\x12", msc.Status{}, api.ErrShort},
		{"\x07\x8f\x01", msc.Status{}, api.ErrMessage},
		{"\x06\x8d", msc.Status{}, api.ErrMessage},
		{"\x05\x8d", msc.Status{}, api.ErrMessage},
		{"\x04\x8d", msc.Status{}, api.ErrMessage},
		{"\x02\x01", msc.Status{}, api.ErrMessage},
		{"\x00\x01", msc.Status{}, api.ErrMessage},
		{"\x07\x9d", msc.Status{}, api.ErrMessage},
		{"\x07\xad", msc.Status{}, api.ErrMessage},
		{"\x07\xff", msc.Status{}, api.ErrMessage},
		{"\x06\x02\x53", msc.Status{}, api.ErrMessage},
		{"\x09\x02\x53", msc.Status{}, api.ErrMessage},
		{"\x07\x12\x53", msc.Status{}, api.ErrMessage},
		{"\x07\x22\x53", msc.Status{}, api.ErrMessage},
		{"\x07\x02\x50", msc.Status{}, api.ErrMessage},
		{"\x07\x02\x51", msc.Status{}, api.ErrMessage},
		{"\x07\x02\x52", msc.Status{}, api.ErrMessage},
		{"\x07\x02\x57", msc.Status{}, api.ErrMessage},
		{"\x07\x02\x5b", msc.Status{}, api.ErrMessage},
		{"\x07\x8d\x03", msc.Status{}, api.ErrMessage},
		{"\x07\x8d\x53", msc.Status{}, api.ErrMessage},
		{"\x07\x02\x53\x53", msc.Status{}, api.ErrMessage},
		{"\x07\x8d\x07\x8d", msc.Status{}, api.ErrMessage},
	} {
		if s, e := msc.Get(x.v); s != x.want || e != x.e {
			t.Errorf("Get %X: %+v, %v, not %+v, %v", x.v, s, e, x.want, x.e)
		}
	}
}

// P9.2: no octet, each one, and each two.
func TestGetShort(t *testing.T) {
	m := written(t)
	sameGet(t, m, "")
	for a := range 256 {
		sameGet(t, m, octets(a))
		for b := range 256 {
			sameGet(t, m, octets(a, b))
		}
	}
}

// P9.2: octets of a status that are cut off.
func TestGetCut(t *testing.T) {
	for _, s := range all() {
		v, _ := plainPut(s)
		for cut := range v {
			if got, e := msc.Get(v[:cut]); got != (msc.Status{}) || e != api.ErrShort {
				t.Fatalf("Get %X: %+v, %v", v[:cut], got, e)
			}
		}
	}
}

// P9.2: three octets: each two at all their values, the third one at its edges.
func TestGetThree(t *testing.T) {
	m := written(t)
	for a := range 256 {
		for b := range 256 {
			for _, c := range edges() {
				sameGet(t, m, octets(a, b, c))
				sameGet(t, m, octets(a, c, b))
				sameGet(t, m, octets(c, a, b))
			}
		}
	}
}

// P9.2: four octets, each at its edges.
func TestGetFour(t *testing.T) {
	m := written(t)
	for _, a := range edges() {
		for _, b := range edges() {
			for _, c := range edges() {
				for _, d := range edges() {
					sameGet(t, m, octets(a, b, c, d))
				}
			}
		}
	}
}

// P9.2: each place once with each value.
func TestGetEachOctet(t *testing.T) {
	m := written(t)
	for _, base := range bases() {
		for at := range base {
			for b := range 256 {
				v := []byte(base)
				v[at] = byte(b)
				sameGet(t, m, string(v))
			}
		}
	}
}

// P9.2: each octet behind a status, and ahead of it.
func TestGetOneMore(t *testing.T) {
	m := written(t)
	for _, base := range bases() {
		for b := range 256 {
			sameGet(t, m, base+octets(b))
			sameGet(t, m, octets(b)+base)
			if s, e := msc.Get(base + octets(b)); s != (msc.Status{}) || e != api.ErrMessage {
				t.Fatalf("Get %X: %+v, %v", base+octets(b), s, e)
			}
		}
	}
}

// P9.2: many octets behind a status, or ahead of it.
func TestGetLong(t *testing.T) {
	for _, base := range bases() {
		for _, n := range []int{2, 3, 4, 253, 254, 255, 256, 65534, 65536} {
			for _, more := range []string{"\x00", "\x01", "\x03", "\xff", base} {
				more = strings.Repeat(more, n)
				for _, v := range []string{base + more, more + base} {
					if s, e := msc.Get(v); s != (msc.Status{}) || e != api.ErrMessage {
						t.Fatalf("Get of %d octets, %X ..: %+v, %v", len(v), v[:4], s, e)
					}
				}
			}
		}
	}
}

// P9.2: octets turned about, and each octet another one at once.
func TestGetTurned(t *testing.T) {
	m := written(t)
	for _, base := range bases() {
		for x := range 256 {
			v := []byte(base)
			for at := range v {
				v[at] ^= byte(x)
			}
			sameGet(t, m, string(v))
			slices.Reverse(v)
			sameGet(t, m, string(v))
		}
	}
}

// P9.3: each signal alone, none and all, by hand.
func TestBitsExamples(t *testing.T) {
	for _, x := range []struct {
		s    msc.Status
		want uint8
	}{
		{msc.Status{}, 0x01},
		{msc.Status{FC: true}, 0x03},
		{msc.Status{RTC: true}, 0x05},
		{msc.Status{RTR: true}, 0x09},
		{msc.Status{IC: true}, 0x41},
		{msc.Status{DV: true}, 0x81},
		{msc.Status{RTC: true, RTR: true, DV: true}, 0x8D},
		{msc.Status{FC: true, RTC: true, RTR: true, IC: true, DV: true}, 0xCF},
		{msc.Status{RTC: true, HasBreak: true, Break: 3}, 0x05},
	} {
		if b := msc.Bits(x.s); b != x.want {
			t.Errorf("Bits %+v: %02X, not %02X", x.s, b, x.want)
		}
	}
}

// P9.3: the signals alone count: neither the channel nor the break, such as may be or such as may not.
func TestBitsOfSignalsAlone(t *testing.T) {
	for set := range sets {
		want := msc.Bits(with(msc.Status{}, set))
		for d := range 256 {
			for _, b := range []uint8{0, 1, 15, 16, 128, 255} {
				for _, has := range []bool{false, true} {
					s := with(msc.Status{DLCI: uint8(d), HasBreak: has, Break: b}, set)
					if got := msc.Bits(s); got != want {
						t.Fatalf("Bits %+v: %02X, not %02X", s, got, want)
					}
				}
			}
		}
	}
}

// P9.3: the octet is the one that Put writes; of a break's it is so but for its mark.
func TestBitsArePut(t *testing.T) {
	for _, s := range all() {
		v, e := msc.Put(s)
		want := msc.Bits(s)
		if s.HasBreak {
			want--
		}
		if e != api.OK || len(v) < 2 || v[1] != want {
			t.Fatalf("Put %+v: %X, %v, its Bits %02X", s, v, e, msc.Bits(s))
		}
	}
}

// P9.4: what is put is got as it was, and no two statuses are put alike.
func TestPutIsGot(t *testing.T) {
	seen := map[string]msc.Status{}
	for _, s := range all() {
		v, e := msc.Put(s)
		if e != api.OK {
			t.Fatalf("Put %+v: %v", s, e)
		}
		if other, twice := seen[v]; twice {
			t.Fatalf("%+v and %+v are both put as %X", s, other, v)
		}
		seen[v] = s
		if got, e := msc.Get(v); got != s || e != api.OK {
			t.Fatalf("%+v: put as %X, got as %+v, %v", s, v, got, e)
		}
	}
}

// P9.4: what is got is put as it was; of two octets and of three there are just as many as there are statuses.
func TestGotIsPut(t *testing.T) {
	count := 0
	back := func(v string) {
		s, e := msc.Get(v)
		if e != api.OK {
			return
		}
		count++
		if again, e := msc.Put(s); again != v || e != api.OK {
			t.Fatalf("%X: got as %+v, put as %X, %v", v, s, again, e)
		}
	}
	for a := range 256 {
		for b := range 256 {
			back(octets(a, b))
			for c := range 256 {
				back(octets(a, b, c))
			}
		}
	}
	if want := 64 * sets * 17; count != want {
		t.Errorf("got %d statuses, not %d", count, want)
	}
}

// P9.4: no two statuses of which just one field differs are put alike, nor got so.
func TestEachFieldTells(t *testing.T) {
	for _, x := range signals {
		for _, base := range bases() {
			s, e := msc.Get(base)
			if e != api.OK {
				t.Fatalf("Get %X: %v", base, e)
			}
			*x.of(&s) = !*x.of(&s)
			v, e := msc.Put(s)
			if got, gotE := msc.Get(v); e != api.OK || v == base || got != s || gotE != api.OK {
				t.Errorf("%s turned in %X: put as %X, %v, got as %+v, %v", x.name, base, v, e, got, gotE)
			}
		}
	}
}

// An answer hangs on the call's arguments alone: not on what was asked before.
func TestNothingIsKept(t *testing.T) {
	for range 3 {
		if v, e := msc.Put(msc.Status{DLCI: 2, FC: true, HasBreak: true, Break: 5}); v != "\x0b\x02\x53" || e != api.OK {
			t.Errorf("Put: %X, %v", v, e)
		}
		if v, e := msc.Put(msc.Status{DLCI: 64}); v != "" || e != api.ErrArg {
			t.Errorf("Put: %X, %v", v, e)
		}
		if s, e := msc.Get("\x07\x8d"); s != (msc.Status{DLCI: 1, RTC: true, RTR: true, DV: true}) || e != api.OK {
			t.Errorf("Get: %+v, %v", s, e)
		}
		if s, e := msc.Get("\x07\x02"); s != (msc.Status{}) || e != api.ErrShort {
			t.Errorf("Get: %+v, %v", s, e)
		}
		if b := msc.Bits(msc.Status{IC: true}); b != 0x41 {
			t.Errorf("Bits: %02X", b)
		}
	}
}
