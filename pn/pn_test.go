package pn_test

import (
	"math"
	"slices"
	"strings"
	"testing"

	"partyline/api"
	"partyline/pn"
)

// A parameter is one of the eight: what it may be, as the chapter's words say it, and where it stands.
type parameter struct {
	name        string
	least, most int
	octet       bool // it has 256 values, not those of an int
	of          func(p *pn.Params) (octet *uint8, number *int)
}

var parameters = []parameter{
	{"DLCI", 1, 63, true, func(p *pn.Params) (*uint8, *int) { return &p.DLCI, nil }},
	{"Frame", 0, 2, true, func(p *pn.Params) (*uint8, *int) { return &p.Frame, nil }},
	{"CL", 0, 3, true, func(p *pn.Params) (*uint8, *int) { return &p.CL, nil }},
	{"Priority", 0, 63, true, func(p *pn.Params) (*uint8, *int) { return &p.Priority, nil }},
	{"T1", 1, 255, false, func(p *pn.Params) (*uint8, *int) { return nil, &p.T1 }},
	{"N1", 1, 65535, false, func(p *pn.Params) (*uint8, *int) { return nil, &p.N1 }},
	{"N2", 0, 255, false, func(p *pn.Params) (*uint8, *int) { return nil, &p.N2 }},
	{"K", 1, 7, false, func(p *pn.Params) (*uint8, *int) { return nil, &p.K }},
}

// greats are numbers far from all bounds, some whose low bits look as if they might be.
var greats = []int{
	math.MinInt, math.MinInt + 1, math.MinInt + 5, -1 << 32, -1<<32 + 5, math.MinInt32, -65536 + 5, -65536, -65535, -256 + 5, -256,
	65537, 65536 + 5, 65536 + 256, 2 * 65536, 1 << 24, math.MaxInt32, 1<<32 + 5, 1<<32 + 256, math.MaxInt - 1, math.MaxInt,
}

// with is p, in which the parameter is n.
func (x parameter) with(p pn.Params, n int) pn.Params {
	octet, number := x.of(&p)
	if x.octet {
		*octet = uint8(n)
	} else {
		*number = n
	}
	return p
}

// in is what the parameter is in p.
func (x parameter) in(p pn.Params) int {
	octet, number := x.of(&p)
	if x.octet {
		return int(*octet)
	}
	return *number
}

// values are all that the parameter can be, if it is an octet; else all near its bounds, and far from them.
func (x parameter) values() (l []int) {
	if x.octet {
		for n := range 256 {
			l = append(l, n)
		}
		return l
	}
	for n := -300; n < 70000; n++ {
		l = append(l, n)
	}
	return append(l, greats...)
}

// edges are the parameter's bounds, what is beside them, and what other parameters' bounds are.
func (x parameter) edges() (l []int) {
	for _, n := range []int{x.least - 1, x.least, x.least + 1, x.most - 1, x.most, x.most + 1, 0, 1, 2, 3, 4, 7, 8, 15, 16, 63, 64, 255, 256, 65535, 65536, math.MinInt, math.MaxInt} {
		if !x.octet || n >= 0 && n < 256 {
			l = append(l, n)
		}
	}
	slices.Sort(l)
	return slices.Compact(l)
}

// one is parameters that may be, and oneOctets theirs: the chapter's.
func one() pn.Params {
	return pn.Params{DLCI: 5, Frame: 2, CL: 3, Priority: 7, T1: 10, N1: 300, N2: 3, K: 2}
}

const oneOctets = "\x05\x32\x07\x0a\x2c\x01\x03\x02"

// least and most are parameters each of which is at its bound.
func least() pn.Params { return pn.Params{DLCI: 1, T1: 1, N1: 1, K: 1} }
func most() pn.Params {
	return pn.Params{DLCI: 63, Frame: 2, CL: 3, Priority: 63, T1: 255, N1: 65535, N2: 255, K: 7}
}

// bases are parameters that may be.
func bases() []pn.Params {
	return []pn.Params{one(), least(), most(), {DLCI: 62, Frame: 1, CL: 1, Priority: 32, T1: 128, N1: 256, N2: 127, K: 4}}
}

// plainMay asks each parameter by its bounds.
func plainMay(p pn.Params) bool {
	for _, x := range parameters {
		if n := x.in(p); n < x.least || n > x.most {
			return false
		}
	}
	return true
}

// plainPut writes octets as the chapter's words say them, by numbers.
func plainPut(p pn.Params) string {
	var s []byte
	for _, n := range []int{int(p.DLCI), int(p.Frame) + 16*int(p.CL), int(p.Priority), p.T1, p.N1 % 256, p.N1 / 256, p.N2, p.K} {
		s = append(s, byte(n))
	}
	return string(s)
}

// plainGet reads octets as the chapter's words say them.
func plainGet(v string) (pn.Params, api.Errno) {
	if len(v) < 8 {
		return pn.Params{}, api.ErrShort
	}
	p := pn.Params{DLCI: v[0], Frame: v[1] & 15, CL: v[1] >> 4, Priority: v[2], T1: int(v[3]), N1: int(v[5])<<8 | int(v[4]), N2: int(v[6]), K: int(v[7])}
	if len(v) > 8 || !plainMay(p) {
		return pn.Params{}, api.ErrMessage
	}
	return p, api.OK
}

// samePut holds May and Put of p against the plain ones.
func samePut(t *testing.T, p pn.Params) {
	t.Helper()
	may := plainMay(p)
	want, wantE := "", api.ErrArg
	if may {
		want, wantE = plainPut(p), api.OK
	}
	if got := pn.May(p); got != may {
		t.Fatalf("May %+v: %t", p, got)
	}
	if s, e := pn.Put(p); s != want || e != wantE {
		t.Fatalf("Put %+v: %X, %v, not %X, %v", p, s, e, want, wantE)
	}
}

// sameGet holds Get of v against the plain one.
func sameGet(t *testing.T, v string) {
	t.Helper()
	want, wantE := plainGet(v)
	if p, e := pn.Get(v); p != want || e != wantE {
		t.Fatalf("Get %X: %+v, %v, not %+v, %v", v, p, e, want, wantE)
	}
}

// many are parameters that may be: all of a few values of each, the bounds among them.
func many() (l []pn.Params) {
	l = []pn.Params{{}}
	for at, ns := range [][]int{{1, 2, 63}, {0, 1, 2}, {0, 1, 3}, {0, 31, 63}, {1, 2, 255}, {1, 255, 256, 300, 65535}, {0, 3, 255}, {1, 4, 7}} {
		var next []pn.Params
		for _, p := range l {
			for _, n := range ns {
				next = append(next, parameters[at].with(p, n))
			}
		}
		l = next
	}
	return l
}

// windows are pairs of N1 and K, such as may be and such as may not.
func windows() (l []pn.Params) {
	for _, n1 := range []int{math.MinInt, -1, 0, 1, 2, 63, 64, 65, 255, 256, 300, 65535, 65536, math.MaxInt} {
		for _, k := range []int{math.MinInt, -1, 0, 1, 2, 3, 6, 7, 8, 300, math.MaxInt} {
			l = append(l, pn.Params{N1: n1, K: k})
		}
	}
	return l
}

// windowed is p with the N1 and K of w.
func windowed(p, w pn.Params) pn.Params {
	p.N1, p.K = w.N1, w.K
	return p
}

// P8.1: the chapter's examples, and the edges by hand.
func TestPutExamples(t *testing.T) {
	for _, x := range []struct {
		p    pn.Params
		want string
	}{
		{one(), oneOctets},
		{least(), "\x01\x00\x00\x01\x01\x00\x00\x01"},
		{most(), "\x3f\x32\x3f\xff\xff\xff\xff\x07"},
		{pn.Params{DLCI: 1, Frame: 1, T1: 1, N1: 255, K: 1}, "\x01\x01\x00\x01\xff\x00\x00\x01"},
		{pn.Params{DLCI: 1, CL: 1, T1: 1, N1: 256, K: 1}, "\x01\x10\x00\x01\x00\x01\x00\x01"},
		{pn.Params{DLCI: 63, Frame: 1, CL: 2, Priority: 1, T1: 2, N1: 65280, N2: 1, K: 6}, "\x3f\x21\x01\x02\x00\xff\x01\x06"},
		{pn.Params{DLCI: 17, Priority: 62, T1: 254, N1: 0x1234, N2: 254, K: 7}, "\x11\x00\x3e\xfe\x34\x12\xfe\x07"},
	} {
		if s, e := pn.Put(x.p); s != x.want || e != api.OK || !pn.May(x.p) {
			t.Errorf("Put %+v: %X, %v", x.p, s, e)
		}
	}
}

// P8.1: one parameter out of its bounds, all others within, by hand.
func TestPutWrong(t *testing.T) {
	for _, x := range []struct {
		name string
		bad  []int
		good []int
	}{
		{"DLCI", []int{0, 64, 65, 127, 128, 255}, []int{1, 63}},
		{"Frame", []int{3, 4, 15, 16, 18, 255}, []int{0, 1, 2}},
		{"CL", []int{4, 5, 15, 16, 19, 255}, []int{0, 3}},
		{"Priority", []int{64, 65, 128, 255}, []int{0, 63}},
		{"T1", []int{math.MinInt, -256, -255, -1, 0, 256, 257, 511, 65536, 1<<32 + 1, math.MaxInt}, []int{1, 255}},
		{"N1", []int{math.MinInt, -65536, -65535, -1, 0, 65536, 65537, 1<<32 + 1, math.MaxInt}, []int{1, 128, 129, 255, 256, 65535}},
		{"N2", []int{math.MinInt, -256, -255, -1, 256, 257, 511, 65536, 1 << 32, math.MaxInt}, []int{0, 255}},
		{"K", []int{math.MinInt, -7, -1, 0, 8, 9, 15, 257, 65537, 1<<32 + 1, math.MaxInt}, []int{1, 7}},
	} {
		at := slices.IndexFunc(parameters, func(y parameter) bool { return y.name == x.name })
		for _, base := range bases() {
			for _, n := range x.bad {
				p := parameters[at].with(base, n)
				if s, e := pn.Put(p); s != "" || e != api.ErrArg || pn.May(p) {
					t.Errorf("Put %+v: %X, %v", p, s, e)
				}
			}
			for _, n := range x.good {
				p := parameters[at].with(base, n)
				if s, e := pn.Put(p); len(s) != 8 || e != api.OK || !pn.May(p) {
					t.Errorf("Put %+v: %X, %v", p, s, e)
				}
			}
		}
	}
	if s, e := pn.Put(pn.Params{}); s != "" || e != api.ErrArg || pn.May(pn.Params{}) {
		t.Errorf("Put of nothing: %X, %v", s, e)
	}
}

// P8.1: each parameter at all its values, or all near its bounds and very great ones, the others being what they may be.
func TestPutEach(t *testing.T) {
	for _, x := range parameters {
		for _, base := range bases() {
			for _, n := range x.values() {
				samePut(t, x.with(base, n))
			}
		}
	}
}

// P8.1: each pair of parameters at all their edges: one that may be does not make another one that may not.
func TestPutPairs(t *testing.T) {
	for _, x := range parameters {
		for _, y := range parameters {
			for _, n := range x.edges() {
				for _, m := range y.edges() {
					samePut(t, y.with(x.with(one(), n), m))
				}
			}
		}
	}
}

// P8.2: the chapter's examples, and the edges by hand.
func TestGetExamples(t *testing.T) {
	for _, x := range []struct {
		v    string
		want pn.Params
		e    api.Errno
	}{
		{oneOctets, one(), api.OK},
		{"\x01\x00\x00\x01\x01\x00\x00\x01", least(), api.OK},
		{"\x3f\x32\x3f\xff\xff\xff\xff\x07", most(), api.OK},
		{"\x11\x21\x3e\xfe\x34\x12\xfe\x06", pn.Params{DLCI: 17, Frame: 1, CL: 2, Priority: 62, T1: 254, N1: 0x1234, N2: 254, K: 6}, api.OK},
		{"", pn.Params{}, api.ErrShort},
		{oneOctets[:1], pn.Params{}, api.ErrShort},
		{oneOctets[:7], pn.Params{}, api.ErrShort},
		{oneOctets[1:], pn.Params{}, api.ErrShort},
		{strings.Repeat("\xff", 7), pn.Params{}, api.ErrShort},
		{oneOctets[:7] + "\x08", pn.Params{}, api.ErrMessage},
		{oneOctets[:7] + "\x00", pn.Params{}, api.ErrMessage},
		{oneOctets[:7] + "\x0a", pn.Params{}, api.ErrMessage},
		{oneOctets + "\x00", pn.Params{}, api.ErrMessage},
		{oneOctets + oneOctets, pn.Params{}, api.ErrMessage},
		{"\x00" + oneOctets[1:], pn.Params{}, api.ErrMessage},
		{"\x40" + oneOctets[1:], pn.Params{}, api.ErrMessage},
		{"\x45" + oneOctets[1:], pn.Params{}, api.ErrMessage},
		{"\x05\x33" + oneOctets[2:], pn.Params{}, api.ErrMessage},
		{"\x05\x3f" + oneOctets[2:], pn.Params{}, api.ErrMessage},
		{"\x05\x42" + oneOctets[2:], pn.Params{}, api.ErrMessage},
		{"\x05\xf2" + oneOctets[2:], pn.Params{}, api.ErrMessage},
		{"\x05\x32\x40" + oneOctets[3:], pn.Params{}, api.ErrMessage},
		{"\x05\x32\x87" + oneOctets[3:], pn.Params{}, api.ErrMessage},
		{"\x05\x32\x07\x00" + oneOctets[4:], pn.Params{}, api.ErrMessage},
		{oneOctets[:4] + "\x00\x00\x03\x02", pn.Params{}, api.ErrMessage},
	} {
		if p, e := pn.Get(x.v); p != x.want || e != x.e {
			t.Errorf("Get %X: %+v, %v, not %+v, %v", x.v, p, e, x.want, x.e)
		}
	}
}

// P8.2: fewer than eight octets are short, whether they might begin parameters or not.
func TestGetShort(t *testing.T) {
	for _, base := range bases() {
		s := plainPut(base)
		for n := range 8 {
			for _, v := range []string{s[:n], s[8-n:], strings.Repeat("\x00", n), strings.Repeat("\x01", n), strings.Repeat("\xff", n)} {
				if p, e := pn.Get(v); p != (pn.Params{}) || e != api.ErrShort {
					t.Fatalf("Get %X: %+v, %v", v, p, e)
				}
			}
		}
	}
}

// P8.2: octets behind, or ahead of, those of parameters that may be.
func TestGetLong(t *testing.T) {
	for _, base := range bases() {
		s := plainPut(base)
		for _, n := range []int{1, 2, 7, 8, 9, 16, 248, 256, 65528, 65536} {
			for _, more := range []string{"\x00", "\x01", "\xff", s[7:]} {
				more = strings.Repeat(more, n)
				for _, v := range []string{s + more, more + s, more + more + "12345678"} {
					if p, e := pn.Get(v); p != (pn.Params{}) || e != api.ErrMessage {
						t.Fatalf("Get of %d octets, %X ..: %+v, %v", len(v), v[:9], p, e)
					}
				}
			}
		}
	}
	for b := range 256 {
		sameGet(t, oneOctets+string([]byte{byte(b)}))
		sameGet(t, string([]byte{byte(b)})+oneOctets)
	}
}

// P8.2: each place once with each value.
func TestGetEachOctet(t *testing.T) {
	for _, base := range bases() {
		for at := range 8 {
			for b := range 256 {
				v := []byte(plainPut(base))
				v[at] = byte(b)
				sameGet(t, string(v))
			}
		}
	}
}

// P8.2: each two places that stand side by side with all their values, N1's among them.
func TestGetEachTwo(t *testing.T) {
	for at := range 7 {
		for b := range 65536 {
			v := []byte(oneOctets)
			v[at], v[at+1] = byte(b), byte(b>>8)
			sameGet(t, string(v))
		}
	}
}

// P8.2: each octet another one, at once; and octets turned about.
func TestGetTurned(t *testing.T) {
	for _, base := range bases() {
		for x := range 256 {
			v := []byte(plainPut(base))
			for at := range v {
				v[at] ^= byte(x)
			}
			sameGet(t, string(v))
			slices.Reverse(v)
			sameGet(t, string(v))
		}
	}
	for b := range 256 {
		sameGet(t, strings.Repeat(string([]byte{byte(b)}), 8))
	}
}

// P8.3: the chapter's example, and an own N1 or K that is less, the same and greater than what was asked.
func TestAgreeExamples(t *testing.T) {
	asked := pn.Params{DLCI: 5, Frame: 2, CL: 3, Priority: 7, T1: 10, N1: 300, N2: 3, K: 2}
	for _, x := range []struct{ ownN1, ownK, n1, k int }{
		{64, 4, 64, 2}, // the chapter's
		{64, 1, 64, 1},
		{299, 2, 299, 2},
		{300, 2, 300, 2},
		{301, 3, 300, 2},
		{301, 1, 300, 1},
		{65535, 7, 300, 2},
		{65536, 8, 300, 2},
		{1, 1, 1, 1},
		{0, 0, 0, 0},
		{-1, 7, -1, 2},
		{300, -5, 300, -5},
		{math.MaxInt, math.MinInt, 300, math.MinInt},
		{math.MinInt, math.MaxInt, math.MinInt, 2},
	} {
		own := pn.Params{DLCI: 9, Frame: 1, CL: 2, Priority: 63, T1: 99, N1: x.ownN1, N2: 200, K: x.ownK}
		want := pn.Params{DLCI: 5, Frame: 2, CL: 3, Priority: 7, T1: 10, N1: x.n1, N2: 3, K: x.k}
		if a := pn.Agree(own, asked); a != want {
			t.Errorf("Agree(%+v, %+v): %+v", own, asked, a)
		}
	}
}

// P8.3: all pairs of an own and an asked N1 and K, such as may be and such as may not: each is the lesser one for itself.
func TestAgreeWindows(t *testing.T) {
	for _, own := range windows() {
		for _, w := range windows() {
			asked := windowed(one(), w)
			want := asked
			if own.N1 < w.N1 {
				want.N1 = own.N1
			}
			if own.K < w.K {
				want.K = own.K
			}
			if a := pn.Agree(own, asked); a != want {
				t.Fatalf("Agree(%+v, %+v): %+v", own, asked, a)
			}
		}
	}
}

// P8.3: of all other parameters what was asked is agreed, whatever it is, and whatever one's own is.
func TestAgreeOthers(t *testing.T) {
	for _, x := range parameters {
		if x.name == "N1" || x.name == "K" {
			continue
		}
		for _, n := range x.edges() {
			for _, m := range x.edges() {
				own, asked := x.with(one(), n), x.with(one(), m)
				if a := pn.Agree(own, asked); a != asked {
					t.Fatalf("Agree(%+v, %+v): %+v", own, asked, a)
				}
			}
		}
	}
	if a := pn.Agree(pn.Params{}, most()); a != windowed(most(), pn.Params{}) {
		t.Errorf("Agree of nothing: %+v", a)
	}
	if a := pn.Agree(most(), pn.Params{}); a != (pn.Params{}) {
		t.Errorf("Agree, when nothing was asked: %+v", a)
	}
}

// P8.3: the chapter's words, by hand.
func TestLowersExamples(t *testing.T) {
	asked := one()
	for _, x := range []struct {
		name   string
		change func(p *pn.Params)
		want   bool
	}{
		{"nothing", func(p *pn.Params) {}, true},
		{"N1 less", func(p *pn.Params) { p.N1 = 299 }, true},
		{"N1 much less", func(p *pn.Params) { p.N1 = 1 }, true},
		{"K less", func(p *pn.Params) { p.K = 1 }, true},
		{"both less", func(p *pn.Params) { p.N1, p.K = 64, 1 }, true},
		{"N1 below what may be", func(p *pn.Params) { p.N1 = math.MinInt }, true},
		{"K below what may be", func(p *pn.Params) { p.K = -1 }, true},
		{"N1 more", func(p *pn.Params) { p.N1 = 301 }, false},
		{"K more", func(p *pn.Params) { p.K = 3 }, false},
		{"both more", func(p *pn.Params) { p.N1, p.K = 301, 3 }, false},
		{"N1 less, K more", func(p *pn.Params) { p.N1, p.K = 299, 3 }, false},
		{"N1 more, K less", func(p *pn.Params) { p.N1, p.K = 301, 1 }, false},
		{"N1 less, T1 less", func(p *pn.Params) { p.N1, p.T1 = 299, 9 }, false},
		{"K less, N2 less", func(p *pn.Params) { p.K, p.N2 = 1, 2 }, false},
		{"both less, another DLCI", func(p *pn.Params) { p.N1, p.K, p.DLCI = 64, 1, 6 }, false},
		{"both less, a lesser Frame", func(p *pn.Params) { p.N1, p.K, p.Frame = 64, 1, 1 }, false},
		{"nothing there", func(p *pn.Params) { *p = pn.Params{} }, false},
	} {
		answer := asked
		x.change(&answer)
		if got := pn.Lowers(answer, asked); got != x.want {
			t.Errorf("%s: %t", x.name, got)
		}
	}
}

// P8.3: an answer that differs in one parameter, upwards and downwards, by little and much: N1 and K may be less, no other one may.
func TestLowersEach(t *testing.T) {
	for _, base := range bases() {
		for _, x := range parameters {
			was := x.in(base)
			for _, n := range x.edges() {
				want := n == was || n < was && (x.name == "N1" || x.name == "K")
				if got := pn.Lowers(x.with(base, n), base); got != want {
					t.Fatalf("Lowers, with the %s %d for %d: %t", x.name, n, was, got)
				}
			}
			for _, by := range []int{-1, 1} {
				answer := x.with(base, was+by)
				want := by < 0 && (x.name == "N1" || x.name == "K")
				if got := pn.Lowers(answer, base); got != want {
					t.Fatalf("Lowers(%+v, %+v): %t", answer, base, got)
				}
			}
		}
	}
}

// P8.3: all pairs of an answered and an asked N1 and K, with all else the same, and with another one that differs.
func TestLowersWindows(t *testing.T) {
	other := one()
	other.T1++
	for _, w := range windows() {
		for _, v := range windows() {
			answer, asked := windowed(one(), w), windowed(one(), v)
			want := w.N1 <= v.N1 && w.K <= v.K
			if got := pn.Lowers(answer, asked); got != want {
				t.Fatalf("Lowers(%+v, %+v): %t", answer, asked, got)
			}
			if pn.Lowers(windowed(other, w), asked) {
				t.Fatalf("another T1 lowers %+v", asked)
			}
		}
	}
}

// P8.4: what is put is got as it was.
func TestPutIsGot(t *testing.T) {
	for _, p := range many() {
		s, e := pn.Put(p)
		if got, gotE := pn.Get(s); e != api.OK || gotE != api.OK || got != p {
			t.Fatalf("%+v is put as %X, %v, and got as %+v, %v", p, s, e, got, gotE)
		}
	}
	for n1 := 1; n1 <= 65535; n1++ {
		p := windowed(one(), pn.Params{N1: n1, K: 1 + n1%7})
		s, _ := pn.Put(p)
		if got, e := pn.Get(s); got != p || e != api.OK {
			t.Fatalf("%+v is put as %X, and got as %+v, %v", p, s, got, e)
		}
	}
}

// P8.4: what is got is put as it was; and what is got may be.
func TestGotIsPut(t *testing.T) {
	got := 0
	for frame := range 256 {
		for _, rest := range []string{oneOctets[2:], "\x00\x01\x01\x00\x00\x01", "\x3f\xff\xff\xff\xff\x07", "\x40\x01\x01\x00\x00\x01", "\x00\x01\x00\x00\x00\x01"} {
			for _, dlci := range []string{"\x00", "\x01", "\x3f", "\x40", "\xff"} {
				v := dlci + string([]byte{byte(frame)}) + rest
				p, e := pn.Get(v)
				if e != api.OK {
					continue
				}
				got++
				if s, e := pn.Put(p); s != v || e != api.OK || !pn.May(p) {
					t.Fatalf("%X is got as %+v, and put as %X, %v", v, p, s, e)
				}
			}
		}
	}
	if want := 3 * 4 * 3 * 2; got != want {
		t.Errorf("%d of the texts are of parameters, not %d", got, want)
	}
}

// agreed holds what P8.4 promises of one agreement.
func agreed(t *testing.T, own, asked pn.Params) {
	t.Helper()
	a := pn.Agree(own, asked)
	if !pn.Lowers(a, asked) {
		t.Fatalf("Agree(%+v, %+v), %+v, does not lower what was asked", own, asked, a)
	}
	if again := pn.Agree(own, a); again != a {
		t.Fatalf("Agree(%+v, %+v), %+v, becomes %+v", own, asked, a, again)
	}
	if pn.May(own) && pn.May(asked) && !pn.May(a) {
		t.Fatalf("Agree(%+v, %+v), %+v, may not be", own, asked, a)
	}
	if b := pn.Agree(asked, own); b.N1 != a.N1 || b.K != a.K {
		t.Fatalf("Agree(%+v, %+v), %+v, is turned about %+v", own, asked, a, b)
	}
}

// P8.4: what is agreed lowers what was asked, stays, may be, and is of the same N1 and K turned about.
func TestAgreed(t *testing.T) {
	all := many()
	for n := range all {
		agreed(t, all[n], all[(n*37+11)%len(all)])
		agreed(t, all[n], all[len(all)-1-n])
	}
	for _, own := range windows() {
		for _, asked := range windows() {
			agreed(t, own, windowed(one(), asked))
			agreed(t, windowed(most(), own), windowed(least(), asked))
		}
	}
	for _, x := range parameters {
		for _, n := range x.edges() {
			for _, m := range x.edges() {
				agreed(t, x.with(one(), n), x.with(least(), m))
			}
		}
	}
}

// P8.2 and P8.3: what is handed in stays as it was, and the same call answers the same again.
func TestSameAgain(t *testing.T) {
	own, asked := least(), most()
	first := pn.Agree(own, asked)
	if own != least() || asked != most() || pn.Agree(own, asked) != first {
		t.Errorf("Agree has changed what it was given, or answers otherwise")
	}
	p, _ := pn.Get(oneOctets)
	p.K = 7
	if again, e := pn.Get(oneOctets); again != one() || e != api.OK {
		t.Errorf("Get answers otherwise: %+v, %v", again, e)
	}
}
