package field_test

import (
	"testing"

	"partyline/api"
	"partyline/field"
)

// said is what a control octet says.
type said struct {
	kind   uint8
	pf     bool
	ns, nr uint8
}

// kindsSaid are the chapter's words of the kinds, in a row by their numbers: the control octet without numbers and bit, and what the kind may be and have.
var kindsSaid = []struct {
	kind              uint8
	octet             int
	hasNS, hasNR      bool
	information       bool
	command, response bool
}{
	{api.SABM, 0x2F, false, false, false, true, false},
	{api.UA, 0x63, false, false, false, false, true},
	{api.DM, 0x0F, false, false, false, false, true},
	{api.DISC, 0x43, false, false, false, true, false},
	{api.UIH, 0xEF, false, false, true, true, true},
	{api.UI, 0x03, false, false, true, true, true},
	{api.I, 0x00, true, true, true, true, true},
	{api.RR, 0x01, false, true, false, true, true},
	{api.RNR, 0x05, false, true, false, true, true},
	{api.REJ, 0x09, false, true, false, true, true},
}

// plainOctets are all control octets and what they say, put together by adding, as the chapter tells it.
func plainOctets() map[said]int {
	out := map[said]int{}
	for _, k := range kindsSaid {
		for ns := range 8 {
			for nr := range 8 {
				if ns > 0 && !k.hasNS || nr > 0 && !k.hasNR {
					continue
				}
				c := k.octet + 2*ns + 0x20*nr
				out[said{k.kind, false, uint8(ns), uint8(nr)}] = c
				out[said{k.kind, true, uint8(ns), uint8(nr)}] = c + 0x10
			}
		}
	}
	return out
}

func got(c uint8) (said, api.Errno) {
	kind, pf, ns, nr, e := field.Get(c)
	return said{kind, pf, ns, nr}, e
}

func put(x said) (uint8, api.Errno) { return field.Put(x.kind, x.pf, x.ns, x.nr) }

// P3.1: each control octet that there is.
func TestPut(t *testing.T) {
	plain := plainOctets()
	if len(plain) != 188 {
		t.Fatalf("%d control octets", len(plain))
	}
	for x, want := range plain {
		if c, e := put(x); int(c) != want || e != api.OK {
			t.Errorf("Put(%v): %02X, %v, not %02X", x, c, e, want)
		}
	}
}

// P3.1: all arguments of all values; what is no kind, or has numbers that it may not have, is ErrArg, and has no octet.
func TestPutAll(t *testing.T) {
	plain := plainOctets()
	for kind := range 256 {
		for ns := range 256 {
			for nr := range 256 {
				for _, pf := range []bool{false, true} {
					x := said{uint8(kind), pf, uint8(ns), uint8(nr)}
					want, wantE := 0, api.ErrArg
					// The map is asked only where there may be something: it is slow.
					if kind <= 12 && ns <= 9 && nr <= 9 {
						if c, ok := plain[x]; ok {
							want, wantE = c, api.OK
						}
					}
					if c, e := put(x); int(c) != want || e != wantE {
						t.Fatalf("Put(%v): %02X, %v, not %02X, %v", x, c, e, want, wantE)
					}
				}
			}
		}
	}
}

// P3.1: the chapter's examples, and one of each kind by hand.
func TestPutExamples(t *testing.T) {
	for _, x := range []struct {
		said
		want uint8
	}{
		{said{api.SABM, true, 0, 0}, 0x3F}, {said{api.I, false, 2, 5}, 0xA4}, {said{api.REJ, true, 0, 7}, 0xF9},
		{said{api.SABM, false, 0, 0}, 0x2F}, {said{api.UA, false, 0, 0}, 0x63}, {said{api.UA, true, 0, 0}, 0x73},
		{said{api.DM, false, 0, 0}, 0x0F}, {said{api.DM, true, 0, 0}, 0x1F}, {said{api.DISC, false, 0, 0}, 0x43}, {said{api.DISC, true, 0, 0}, 0x53},
		{said{api.UIH, false, 0, 0}, 0xEF}, {said{api.UIH, true, 0, 0}, 0xFF}, {said{api.UI, false, 0, 0}, 0x03}, {said{api.UI, true, 0, 0}, 0x13},
		{said{api.I, false, 0, 0}, 0x00}, {said{api.I, true, 0, 0}, 0x10}, {said{api.I, false, 7, 0}, 0x0E}, {said{api.I, false, 0, 7}, 0xE0},
		{said{api.I, false, 1, 0}, 0x02}, {said{api.I, false, 0, 1}, 0x20}, {said{api.I, true, 7, 7}, 0xFE},
		{said{api.RR, false, 0, 0}, 0x01}, {said{api.RR, true, 0, 0}, 0x11}, {said{api.RR, false, 0, 7}, 0xE1}, {said{api.RR, true, 0, 7}, 0xF1},
		{said{api.RNR, false, 0, 0}, 0x05}, {said{api.RNR, true, 0, 1}, 0x35}, {said{api.RNR, true, 0, 7}, 0xF5},
		{said{api.REJ, false, 0, 0}, 0x09}, {said{api.REJ, true, 0, 0}, 0x19}, {said{api.REJ, false, 0, 7}, 0xE9},
	} {
		if c, e := put(x.said); c != x.want || e != api.OK {
			t.Errorf("Put(%v): %02X, %v, not %02X", x.said, c, e, x.want)
		}
	}
}

// P3.1: what is no kind, numbers one past the greatest, and numbers that a kind has not, by hand.
func TestPutWrong(t *testing.T) {
	for _, pf := range []bool{false, true} {
		for _, x := range []said{
			{0, pf, 0, 0}, {11, pf, 0, 0}, {12, pf, 0, 0}, {128, pf, 0, 0}, {255, pf, 0, 0}, {0, pf, 0, 1}, {11, pf, 2, 5},
			{api.I, pf, 8, 0}, {api.I, pf, 0, 8}, {api.I, pf, 8, 8}, {api.I, pf, 7, 8}, {api.I, pf, 8, 7}, {api.I, pf, 128, 0}, {api.I, pf, 0, 16}, {api.I, pf, 255, 255},
			{api.RR, pf, 1, 0}, {api.RNR, pf, 1, 0}, {api.REJ, pf, 7, 0}, {api.RR, pf, 1, 7}, {api.RR, pf, 128, 0},
			{api.RR, pf, 0, 8}, {api.RNR, pf, 0, 8}, {api.REJ, pf, 0, 8}, {api.REJ, pf, 0, 255},
			{api.SABM, pf, 1, 0}, {api.SABM, pf, 0, 1}, {api.UA, pf, 1, 0}, {api.UA, pf, 0, 1}, {api.DM, pf, 0, 7}, {api.DM, pf, 7, 0},
			{api.DISC, pf, 0, 1}, {api.DISC, pf, 1, 1}, {api.UIH, pf, 0, 1}, {api.UIH, pf, 1, 0}, {api.UI, pf, 0, 1}, {api.UI, pf, 1, 0}, {api.UI, pf, 8, 0}, {api.UI, pf, 0, 8},
		} {
			if c, e := put(x); c != 0 || e != api.ErrArg {
				t.Errorf("Put(%v): %02X, %v", x, c, e)
			}
		}
	}
}

// P3.2: each octet; of one that is none everything is zero.
func TestGet(t *testing.T) {
	says := map[int]said{}
	for x, c := range plainOctets() {
		says[c] = x
	}
	for c := range 256 {
		want, ok := says[c]
		wantE := api.OK
		if !ok {
			wantE = api.ErrField
		}
		if x, e := got(uint8(c)); x != want || e != wantE {
			t.Errorf("Get(%02X): %v, %v, not %v, %v", c, x, e, want, wantE)
		}
	}
}

// P3.2: the chapter's examples, and some by hand.
func TestGetExamples(t *testing.T) {
	for _, x := range []struct {
		c uint8
		said
	}{
		{0x73, said{api.UA, true, 0, 0}}, {0xE1, said{api.RR, false, 0, 7}}, {0x3F, said{api.SABM, true, 0, 0}}, {0x2F, said{api.SABM, false, 0, 0}},
		{0x0F, said{api.DM, false, 0, 0}}, {0x53, said{api.DISC, true, 0, 0}}, {0xEF, said{api.UIH, false, 0, 0}}, {0xFF, said{api.UIH, true, 0, 0}},
		{0x03, said{api.UI, false, 0, 0}}, {0x00, said{api.I, false, 0, 0}}, {0x10, said{api.I, true, 0, 0}}, {0xA4, said{api.I, false, 2, 5}},
		{0x0E, said{api.I, false, 7, 0}}, {0xFE, said{api.I, true, 7, 7}}, {0x35, said{api.RNR, true, 0, 1}}, {0xF9, said{api.REJ, true, 0, 7}}, {0x29, said{api.REJ, false, 0, 1}},
	} {
		if is, e := got(x.c); is != x.said || e != api.OK {
			t.Errorf("Get(%02X): %v, %v, not %v", x.c, is, e, x.said)
		}
	}
}

// P3.2: octets that are none: a fourth numbered one without N(S), and those beside the kinds without numbers.
func TestGetWrong(t *testing.T) {
	wrong := []uint8{0x07, 0x0B, 0x23, 0x83, 0xE3, 0x4F, 0x6F, 0x8F, 0xAF, 0xCF, 0x2B, 0x27, 0x67, 0x47, 0x4B, 0x6B, 0xEB, 0xE7, 0xC3, 0xA3}
	for nr := range uint8(8) {
		wrong = append(wrong, 0x0D+0x20*nr)
	}
	for _, c := range wrong {
		for _, each := range []uint8{c, c | 0x10} {
			if x, e := got(each); x != (said{}) || e != api.ErrField {
				t.Errorf("Get(%02X): %v, %v", each, x, e)
			}
		}
	}
}

// P3.3: each kind, and each number that is no kind.
func TestCarriesAndMay(t *testing.T) {
	for kind := range 256 {
		information, command, response := false, false, false
		for _, k := range kindsSaid {
			if int(k.kind) == kind {
				information, command, response = k.information, k.command, k.response
			}
		}
		if field.Carries(uint8(kind)) != information {
			t.Errorf("Carries(%d): not %t", kind, information)
		}
		if field.May(uint8(kind), true) != command {
			t.Errorf("May(%d, true): not %t", kind, command)
		}
		if field.May(uint8(kind), false) != response {
			t.Errorf("May(%d, false): not %t", kind, response)
		}
	}
}

// P3.4: what is put is got as it was, and no two are put alike.
func TestPutIsGot(t *testing.T) {
	by := map[uint8]said{}
	for kind := range uint8(12) {
		for ns := range uint8(9) {
			for nr := range uint8(9) {
				for _, pf := range []bool{false, true} {
					x := said{kind, pf, ns, nr}
					c, e := put(x)
					if e != api.OK {
						continue
					}
					if other, ok := by[c]; ok {
						t.Errorf("%v and %v are both put as %02X", other, x, c)
					}
					by[c] = x
					if is, e := got(c); is != x || e != api.OK {
						t.Errorf("%v is put as %02X, which is got as %v, %v", x, c, is, e)
					}
				}
			}
		}
	}
	if len(by) != 188 {
		t.Errorf("%d octets are put", len(by))
	}
}

// P3.4: an octet that is got is put as it was.
func TestGotIsPut(t *testing.T) {
	n := 0
	for c := range 256 {
		x, e := got(uint8(c))
		if e != api.OK {
			continue
		}
		n++
		if again, e := put(x); int(again) != c || e != api.OK {
			t.Errorf("%02X is got as %v, which is put as %02X, %v", c, x, again, e)
		}
	}
	if n != 188 {
		t.Errorf("%d octets are got", n)
	}
}

// An answer hangs on the call's arguments alone: not on what was asked before.
func TestNothingIsKept(t *testing.T) {
	for range 3 {
		if c, e := field.Put(api.RR, false, 1, 0); c != 0 || e != api.ErrArg {
			t.Errorf("Put(RR, false, 1, 0): %02X, %v", c, e)
		}
		if c, e := field.Put(api.REJ, true, 0, 7); c != 0xF9 || e != api.OK {
			t.Errorf("Put(REJ, true, 0, 7): %02X, %v", c, e)
		}
		if x, e := got(0xFE); x != (said{api.I, true, 7, 7}) || e != api.OK {
			t.Errorf("Get(FE): %v, %v", x, e)
		}
		if x, e := got(0xFD); x != (said{}) || e != api.ErrField {
			t.Errorf("Get(FD): %v, %v", x, e)
		}
		if !field.Carries(api.I) || field.Carries(api.SABM) || !field.May(api.DISC, true) || field.May(api.DISC, false) {
			t.Error("Carries, May: another answer when asked again")
		}
	}
}
