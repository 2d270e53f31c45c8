package line_test

import (
	"math"
	"runtime"
	"slices"
	"strings"
	"testing"
	"unsafe"

	"partyline/line"
)

// ns are numbers of a damage: the least and the greatest, those about the bounds, and some that would be others, if less than all of their bits were read.
var ns = []int{math.MinInt, math.MinInt + 1, -1<<32 + 2, math.MinInt32, -256, -255, -2, -1, 0, 1, 2, 3, 4, 5, 254, 255, 256, 257, 258, 511, 512, 65536, math.MaxInt32, 1 << 32, 1<<32 + 1, math.MaxInt - 255, math.MaxInt - 1, math.MaxInt}

// octets are bytes of a damage.
var octets = []byte{0, 1, 0x20, 'x', 0x7F, 0x80, 0xFF}

// texts are short and long ones; among them some that are longer than the greatest number, and bytes that are no text of runes.
var texts = []string{"", "a", "ab", "abcd", "\x00\x00\xff\x80", strings.Repeat("x", 5), count(254), count(255), count(256), count(600)}

// count is a text of so many bytes, none of which is as the one beside it.
func count(n int) string {
	b := make([]byte, n)
	for i := range b {
		b[i] = byte(i*7 + i/256)
	}
	return string(b)
}

// places are those of a text that its edges name, and such as it never has.
func places(s string) []int {
	n := len(s)
	return []int{math.MinInt, math.MinInt + 1, -1 << 32, math.MinInt32, -256, -2, -1, 0, 1, 2, n / 2, n - 2, n - 1, n, n + 1, n + 255, n + 256, math.MaxInt32, 1 << 32, 1<<32 + 1, math.MaxInt - 1, math.MaxInt}
}

// kinds are all of them, and some that are none.
var kinds = []uint8{line.None, line.Drop, line.Flip, line.Insert, line.Lose, 5, 6, 7, 127, 128, 129, 254, 255}

// plain is what the chapter's words say of a damage, read one place at a time.
func plain(s string, d line.Damage) string {
	n := d.N
	if n < 0 {
		n = 0
	}
	if n > 255 {
		n = 255
	}
	if d.Kind == line.Lose {
		return ""
	}
	var out []byte
	for at := range len(s) + 1 {
		if d.Kind == line.Insert && at == d.At {
			for range n {
				out = append(out, d.Byte)
			}
		}
		if at == len(s) {
			break
		}
		switch {
		case d.Kind == line.Drop && d.At >= 0 && at >= d.At && at-d.At < n:
		case d.Kind == line.Flip && at == d.At:
			out = append(out, s[at]^d.Byte)
		default:
			out = append(out, s[at])
		}
	}
	return string(out)
}

// plainLine is a line that keeps all bytes in one text, and beside it the places at which pieces end.
type plainLine struct {
	text string
	ends []int
}

func (p *plainLine) send(s string, damages ...line.Damage) int {
	for _, d := range damages {
		s = plain(s, d)
	}
	p.text += s
	if s != "" {
		p.ends = append(p.ends, len(p.text))
	}
	return len(s)
}

func (p *plainLine) hand(n int) string {
	if len(p.ends) == 0 {
		return ""
	}
	if n < 1 || n >= p.ends[0] {
		n = p.ends[0]
	}
	s := p.text[:n]
	p.text = p.text[n:]
	for i := range p.ends {
		p.ends[i] -= n
	}
	if p.ends[0] == 0 {
		p.ends = p.ends[1:]
	}
	return s
}

// dice are numbers that follow no plain rule.
type dice uint32

func (d *dice) roll(n int) int {
	*d = *d*1664525 + 1013904223
	return int(*d>>8) % n
}

func (d *dice) damage(s string) line.Damage {
	at := d.roll(len(s)+3) - 1
	if d.roll(8) == 0 {
		at = places(s)[d.roll(len(places(s)))]
	}
	n := d.roll(6)
	if d.roll(8) == 0 {
		n = ns[d.roll(len(ns))]
	}
	kind := uint8(d.roll(6))
	if kind == line.Lose && d.roll(3) > 0 {
		kind = line.Flip
	}
	return line.Damage{Kind: kind, At: at, Byte: byte(d.roll(256)), N: n}
}

// short is so much of a text as a person reads.
func short(s string) string {
	if len(s) > 80 {
		return s[:80] + ".."
	}
	return s
}

func apply(t *testing.T, s string, d line.Damage, want string) {
	t.Helper()
	if got := line.Apply(s, d); got != want {
		t.Fatalf("Apply(%q, %+v) = %q, not %q", short(s), d, short(got), short(want))
	}
}

func send(t *testing.T, l *line.Line, want int, s string, damages ...line.Damage) {
	t.Helper()
	if n := l.Send(s, damages...); n != want {
		t.Fatalf("Send(%q, %+v) with %d damages = %d, not %d", short(s), damages[:min(len(damages), 5)], len(damages), n, want)
	}
}

func hand(t *testing.T, l *line.Line, n int, want string) {
	t.Helper()
	if s := l.Hand(n); s != want {
		t.Fatalf("Hand(%d) = %q, not %q", n, short(s), short(want))
	}
}

func waits(t *testing.T, l *line.Line, pieces, bytes int) {
	t.Helper()
	if l.Pieces() != pieces || l.Waits() != bytes {
		t.Fatalf("%d pieces of %d bytes, not %d of %d", l.Pieces(), l.Waits(), pieces, bytes)
	}
}

// holds asks that the line has just these pieces, and takes them.
func holds(t *testing.T, l *line.Line, pieces ...string) {
	t.Helper()
	for i, s := range pieces {
		waits(t, l, len(pieces)-i, len(strings.Join(pieces[i:], "")))
		hand(t, l, 0, s)
	}
	waits(t, l, 0, 0)
	hand(t, l, 0, "")
}

// onAll runs a test on a line of New, on one that New did not make, and on one that was used.
func onAll(t *testing.T, run func(t *testing.T, l *line.Line)) {
	t.Helper()
	used := line.New()
	for range 20 {
		used.Send("abc")
		used.Hand(2)
		used.Hand(2)
	}
	for name, l := range map[string]*line.Line{"of New": line.New(), "not of New": {}, "used": used} {
		t.Log(name)
		run(t, l)
	}
}

// P12.1

func TestNew(t *testing.T) {
	onAll(t, func(t *testing.T, l *line.Line) {
		if l == nil {
			t.Fatal("nil")
		}
		holds(t, l)
		for _, n := range ns {
			hand(t, l, n, "")
		}
		waits(t, l, 0, 0)
	})
}

func TestNilLine(t *testing.T) {
	var l *line.Line
	send(t, l, 0, "")
	send(t, l, 0, "abc")
	send(t, l, 0, count(600), line.Damage{Kind: line.Drop, N: 3}, line.Damage{Kind: 9})
	send(t, l, 0, "", line.Damage{Kind: line.Insert, N: 9, Byte: 'x'})
	for _, n := range ns {
		hand(t, l, n, "")
	}
	waits(t, l, 0, 0)
}

func TestLinesAreApart(t *testing.T) {
	a, b := line.New(), line.New()
	send(t, a, 3, "abc")
	waits(t, b, 0, 0)
	send(t, b, 2, "de")
	hand(t, a, 1, "a")
	holds(t, b, "de")
	holds(t, a, "bc")
}

// P12.2

func TestConstants(t *testing.T) {
	for want, kind := range []uint8{line.None, line.Drop, line.Flip, line.Insert, line.Lose} {
		if int(kind) != want {
			t.Errorf("a Kind is %d, not %d", kind, want)
		}
	}
}

func TestApplyAtEdges(t *testing.T) {
	for _, s := range texts {
		for _, kind := range kinds {
			for _, at := range places(s) {
				for _, n := range ns {
					for _, octet := range octets {
						d := line.Damage{Kind: kind, At: at, Byte: octet, N: n}
						apply(t, s, d, plain(s, d))
					}
				}
			}
		}
	}
}

// Each Kind, at each place of a text, with each small number, and each byte.
func TestApplyThroughout(t *testing.T) {
	for size := range 7 {
		s := count(size)
		for kind := range 256 {
			for at := -2; at < size+3; at++ {
				for n := -1; n < size+3; n++ {
					d := line.Damage{Kind: uint8(kind), At: at, Byte: byte(kind*31 + n), N: n}
					apply(t, s, d, plain(s, d))
				}
			}
		}
	}
	for octet := range 256 {
		for at := -1; at < 4; at++ {
			for _, kind := range kinds {
				d := line.Damage{Kind: kind, At: at, Byte: byte(octet), N: 2}
				apply(t, "a\xff\x00", d, plain("a\xff\x00", d))
			}
		}
	}
}

func TestStays(t *testing.T) {
	for _, s := range texts {
		for _, d := range []line.Damage{
			{}, {Kind: line.None, At: 0, Byte: 0xFF, N: 1}, {Kind: 5, N: 1, Byte: 1}, {Kind: 6, N: 1, Byte: 1}, {Kind: 255, N: 255, Byte: 255},
			{Kind: line.Drop, At: -1, N: 255}, {Kind: line.Drop, At: len(s), N: 255}, {Kind: line.Drop, At: math.MaxInt, N: math.MaxInt}, {Kind: line.Drop, At: math.MinInt, N: math.MaxInt}, {Kind: line.Drop, N: 0}, {Kind: line.Drop, N: -1}, {Kind: line.Drop, N: math.MinInt},
			{Kind: line.Flip, At: -1, Byte: 1}, {Kind: line.Flip, At: len(s), Byte: 1}, {Kind: line.Flip, At: math.MaxInt, Byte: 1}, {Kind: line.Flip, At: math.MinInt, Byte: 1}, {Kind: line.Flip, Byte: 0},
			{Kind: line.Insert, At: -1, N: 1}, {Kind: line.Insert, At: len(s) + 1, N: 1}, {Kind: line.Insert, At: math.MaxInt, N: 1}, {Kind: line.Insert, At: math.MinInt, N: 1}, {Kind: line.Insert, N: 0}, {Kind: line.Insert, N: -1}, {Kind: line.Insert, At: len(s), N: math.MinInt},
		} {
			apply(t, s, d, s)
		}
	}
}

func TestDrop(t *testing.T) {
	s := count(600)
	for _, c := range []struct {
		at, n int
		want  string
	}{
		{0, 1, s[1:]}, {0, 255, s[255:]}, {0, 256, s[255:]}, {0, math.MaxInt, s[255:]}, {599, 1, s[:599]}, {599, 255, s[:599]}, {599, math.MaxInt, s[:599]},
		{345, 255, s[:345]}, {345, 254, s[:345] + s[599:]}, {346, 255, s[:346]}, {346, 254, s[:346]}, {344, 255, s[:344] + s[599:]}, {344, 256, s[:344] + s[599:]},
	} {
		apply(t, s, line.Damage{Kind: line.Drop, At: c.at, N: c.n, Byte: 7}, c.want)
	}
	apply(t, "a", line.Damage{Kind: line.Drop, N: 1}, "")
	apply(t, "abc", line.Damage{Kind: line.Drop, N: 3}, "")
	apply(t, "abc", line.Damage{Kind: line.Drop, N: 4}, "")
}

// The number counts for nothing, and what is turned twice is as it was.
func TestFlip(t *testing.T) {
	for _, s := range texts {
		for _, n := range ns {
			for _, octet := range octets {
				for at := range len(s) {
					d := line.Damage{Kind: line.Flip, At: at, Byte: octet, N: n}
					got := line.Apply(s, d)
					if got != s[:at]+string([]byte{s[at] ^ octet})+s[at+1:] {
						t.Fatalf("Apply(%q, %+v) = %q", short(s), d, short(got))
					}
					apply(t, got, d, s)
				}
			}
		}
	}
}

func TestInsert(t *testing.T) {
	for _, s := range texts {
		for _, n := range []int{1, 2, 254, 255, 256, math.MaxInt} {
			in := strings.Repeat("x", min(n, 255))
			for _, at := range []int{0, len(s) / 2, len(s)} {
				apply(t, s, line.Damage{Kind: line.Insert, At: at, Byte: 'x', N: n}, s[:at]+in+s[at:])
			}
		}
	}
}

// Whatever At is, and all else.
func TestLose(t *testing.T) {
	for _, s := range texts {
		for _, at := range places(s) {
			for _, n := range ns {
				apply(t, s, line.Damage{Kind: line.Lose, At: at, N: n, Byte: 1}, "")
			}
		}
	}
}

// P12.3

func TestSend(t *testing.T) {
	onAll(t, func(t *testing.T, l *line.Line) {
		var all []string
		for _, s := range texts {
			send(t, l, len(s), s)
			if s != "" {
				all = append(all, s)
			}
		}
		holds(t, l, all...)
	})
}

// An empty piece is none, whether it was empty, or became so.
func TestSendEmpty(t *testing.T) {
	onAll(t, func(t *testing.T, l *line.Line) {
		send(t, l, 0, "")
		waits(t, l, 0, 0)
		send(t, l, 3, "abc")
		send(t, l, 0, "")
		send(t, l, 0, "de", line.Damage{Kind: line.Lose})
		send(t, l, 0, "de", line.Damage{Kind: line.Drop, N: 2})
		send(t, l, 0, "", line.Damage{Kind: line.Flip, Byte: 1}, line.Damage{Kind: line.Insert, At: 1, N: 1})
		waits(t, l, 1, 3)
		send(t, l, 2, "fg")
		send(t, l, 0, "h", line.Damage{Kind: line.Drop, N: 1})
		holds(t, l, "abc", "fg")
	})
}

func TestSendDamages(t *testing.T) {
	drop := func(at, n int) line.Damage { return line.Damage{Kind: line.Drop, At: at, N: n} }
	flip := func(at int, octet byte) line.Damage { return line.Damage{Kind: line.Flip, At: at, Byte: octet} }
	insert := func(at int, octet byte, n int) line.Damage {
		return line.Damage{Kind: line.Insert, At: at, Byte: octet, N: n}
	}
	lose := line.Damage{Kind: line.Lose}
	for _, c := range []struct {
		s       string
		damages []line.Damage
		want    string
	}{
		{"abcd", nil, "abcd"},
		{"abcd", []line.Damage{}, "abcd"},
		{"abcd", []line.Damage{{}, {Kind: 5}, {Kind: 255, N: 9}}, "abcd"},
		{"abcd", []line.Damage{drop(1, 1), drop(1, 1)}, "ad"},
		{"abcd", []line.Damage{drop(0, 1), flip(0, 0x20)}, "Bcd"},
		{"abcd", []line.Damage{flip(0, 0x20), drop(0, 1)}, "bcd"},
		{"abcd", []line.Damage{flip(1, 0x20), flip(1, 0x20)}, "abcd"},
		{"abcd", []line.Damage{drop(2, 2), flip(2, 0x20)}, "ab"},
		{"ab", []line.Damage{insert(2, 'x', 2), flip(3, 0x20), drop(0, 2)}, "xX"},
		{"ab", []line.Damage{drop(0, 1), insert(2, 'x', 2)}, "b"},
		{"ab", []line.Damage{insert(0, 'x', 1), insert(3, 'y', 1), insert(5, 'z', 1)}, "xaby"},
		{"ab", []line.Damage{insert(1, 'x', 300), insert(1, 'y', 300)}, "a" + strings.Repeat("y", 255) + strings.Repeat("x", 255) + "b"},
		{"ab", []line.Damage{lose, insert(0, 'x', 3)}, "xxx"},
		{"ab", []line.Damage{lose, insert(1, 'x', 3)}, ""},
		{"ab", []line.Damage{insert(0, 'x', 3), lose}, ""},
		{"ab", []line.Damage{lose, lose, insert(0, 'x', 3), lose, insert(0, 'y', 1)}, "y"},
		{"ab", []line.Damage{drop(0, 9), insert(0, 'x', 1)}, "x"},
		{"", []line.Damage{insert(0, 'x', 2), flip(1, 0x20)}, "xX"},
	} {
		onAll(t, func(t *testing.T, l *line.Line) {
			send(t, l, 1, "<")
			send(t, l, len(c.want), c.s, c.damages...)
			send(t, l, 1, ">")
			if c.want == "" {
				holds(t, l, "<", ">")
			} else {
				holds(t, l, "<", c.want, ">")
			}
		})
	}
}

func TestSendManyDamages(t *testing.T) {
	l, s := line.New(), count(300)
	var damages []line.Damage
	for i := range s {
		damages = append(damages, line.Damage{Kind: line.Flip, At: i, Byte: s[i]}, line.Damage{Kind: line.Insert, At: len(s) + i, Byte: s[i], N: 1}, line.Damage{Kind: line.Drop, At: -1, N: 1})
	}
	for range s {
		damages = append(damages, line.Damage{Kind: line.Drop, N: 1})
	}
	send(t, l, len(s), s, damages...)
	holds(t, l, s)
}

// P12.4

func TestHand(t *testing.T) {
	const size = 5
	first := count(size)
	for _, n := range append([]int{size - 1, size, size + 1, size + 3, size + 4}, ns...) {
		onAll(t, func(t *testing.T, l *line.Line) {
			send(t, l, size, first)
			send(t, l, 3, "abc")
			if n < 1 || n >= size {
				hand(t, l, n, first)
				holds(t, l, "abc")
				return
			}
			hand(t, l, n, first[:n])
			holds(t, l, first[n:], "abc")
		})
	}
}

func TestHandOneByte(t *testing.T) {
	onAll(t, func(t *testing.T, l *line.Line) {
		for _, n := range ns {
			send(t, l, 1, "a")
			send(t, l, 1, "b")
			hand(t, l, n, "a")
			holds(t, l, "b")
		}
	})
}

// It never hands over of two pieces, however many bytes may be, and takes a piece in as many parts as there are.
func TestHandParts(t *testing.T) {
	whole := count(600)
	for n := 1; n < 605; n++ {
		l := line.New()
		send(t, l, 600, whole)
		send(t, l, 2, "ab")
		for at := 0; at < 600; at += n {
			waits(t, l, 2, 600-at+2)
			hand(t, l, n, whole[at:min(at+n, 600)])
		}
		waits(t, l, 1, 2)
		hand(t, l, 600, "ab")
		hand(t, l, n, "")
		send(t, l, 1, "c")
		holds(t, l, "c")
	}
}

// P12.5

func TestPiecesAndWaits(t *testing.T) {
	onAll(t, func(t *testing.T, l *line.Line) {
		waits(t, l, 0, 0)
		for i := range 100 {
			send(t, l, 7, count(7))
			waits(t, l, i+1, 7*(i+1))
		}
		for i := range 100 {
			hand(t, l, 3, count(7)[:3])
			waits(t, l, 100-i, 7*(100-i)-3)
			hand(t, l, 4, count(7)[3:])
			waits(t, l, 99-i, 7*(99-i))
		}
		hand(t, l, 3, "")
		waits(t, l, 0, 0)
	})
}

// To ask changes nothing.
func TestAskAgain(t *testing.T) {
	l := line.New()
	send(t, l, 3, "abc")
	hand(t, l, 1, "a")
	for range 5 {
		waits(t, l, 1, 2)
	}
	holds(t, l, "bc")
}

// P12.6

// borrowed is a text that the test may write to behind the call that it was handed to.
func borrowed(s string) ([]byte, string) {
	b := []byte(s)
	return b, unsafe.String(unsafe.SliceData(b), len(b))
}

func TestTextIsOnlyRead(t *testing.T) {
	for _, kind := range kinds {
		for _, n := range []int{0, 1, 2, 255} {
			for at := -1; at < 8; at++ {
				d := line.Damage{Kind: kind, At: at, Byte: 0x21, N: n}
				l := line.New()
				b, s := borrowed("abcdef")
				want := plain("abcdef", d)
				got := line.Apply(s, d)
				send(t, l, len(want), s, d)
				if string(b) != "abcdef" {
					t.Fatalf("%+v: the text became %q", d, b)
				}
				clear(b)
				if got != want {
					t.Fatalf("%+v: an answer became %q", d, got)
				}
				hand(t, l, 0, want)
			}
		}
	}
}

func TestTextIsNotKept(t *testing.T) {
	l := line.New()
	b, s := borrowed("abcdef")
	send(t, l, 6, s)
	hand(t, l, 2, "ab")
	clear(b)
	hand(t, l, 2, "cd")
	hand(t, l, 0, "ef")
}

// Neither the damages nor what lies behind them in their memory is changed, nor looked at again.
func TestDamagesAreOnlyRead(t *testing.T) {
	was := []line.Damage{{Kind: line.Insert, At: 1, Byte: 'x', N: 300}, {Kind: line.Drop, N: -7}, {Kind: line.Flip, Byte: 0x20, N: math.MaxInt}, {Kind: 77, At: math.MinInt, N: math.MinInt}, {Kind: line.Lose, N: 256}, {Kind: line.Lose, N: 999}}
	memory := slices.Clone(was)
	l := line.New()
	want := "A" + strings.Repeat("x", 255) + "b"
	send(t, l, len(want), "ab", memory[:4]...)
	for _, d := range memory {
		line.Apply("abc", d)
	}
	if !slices.Equal(memory, was) {
		t.Fatalf("damages became %+v", memory)
	}
	clear(memory)
	holds(t, l, want)
}

// apart asks that no two of the texts have a byte of memory in common. (Of one byte alone the language has one memory for all.)
func apart(t *testing.T, all ...string) {
	t.Helper()
	for i, a := range all {
		for _, b := range all[:i] {
			if len(a) < 2 || len(b) < 2 {
				continue
			}
			from, other := uintptr(unsafe.Pointer(unsafe.StringData(a))), uintptr(unsafe.Pointer(unsafe.StringData(b)))
			if from < other+uintptr(len(b)) && other < from+uintptr(len(a)) {
				t.Fatalf("%q and %q share memory", short(a), short(b))
			}
		}
	}
}

func TestAnswersAreNewMemory(t *testing.T) {
	s := count(20)
	all := []string{s}
	for _, kind := range kinds {
		for _, at := range []int{-1, 0, 10, 18, 20, 21} {
			for _, n := range []int{0, 2, 10} {
				d := line.Damage{Kind: kind, At: at, N: n}
				all = append(all, line.Apply(s, d), line.Apply(s, d))
			}
		}
	}
	l := line.New()
	for range 4 {
		l.Send(s)
		l.Send(s, line.Damage{Kind: line.Drop, At: 18, N: 2}, line.Damage{Kind: line.Drop, N: 2})
	}
	for l.Pieces() > 0 {
		all = append(all, l.Hand(7))
	}
	apart(t, all...)
}

// heap is how many bytes are in use when all that nobody keeps has gone.
func heap() int {
	var m runtime.MemStats
	runtime.GC()
	runtime.GC()
	runtime.ReadMemStats(&m)
	return int(m.HeapAlloc)
}

// Little that was handed over of a great piece keeps nothing of it; nor does a line of what is gone.
func TestHandedKeepsNothing(t *testing.T) {
	const great, many = 1 << 20, 40
	l := line.New()
	var kept []string
	before := heap()
	for n := range many {
		send(t, l, great, strings.Repeat(string([]byte{byte(n)}), great))
		kept = append(kept, l.Hand(9))
		l.Hand(great - 9 - 9)
		kept = append(kept, l.Hand(9))
	}
	if grown := heap() - before; grown > great*many/4 {
		t.Errorf("%d texts of 9 bytes keep %d bytes", len(kept), grown)
	}
	waits(t, l, 0, 0)
	for i, s := range kept {
		if s != strings.Repeat(string([]byte{byte(i / 2)}), 9) {
			t.Fatalf("%q is kept", s)
		}
	}
}

// Pieces that are gone keep nothing, where others wait behind them.
func TestGoneKeepsNothing(t *testing.T) {
	const great, many = 1 << 20, 40
	l := line.New()
	before := heap()
	for n := range many {
		send(t, l, great, strings.Repeat(string([]byte{byte(n)}), great))
	}
	send(t, l, 1, "a")
	for range many {
		l.Hand(0)
	}
	if grown := heap() - before; grown > great*many/4 {
		t.Errorf("%d pieces that are gone keep %d bytes", many, grown)
	}
	holds(t, l, "a")
}

// Nor does what was left of a text keep what was dropped.
func TestDroppedIsNotKept(t *testing.T) {
	const size, many = 600, 20000
	l := line.New()
	var kept []string
	cut := []line.Damage{{Kind: line.Drop, N: 255}, {Kind: line.Drop, At: 1, N: 255}, {Kind: line.Drop, At: 2, N: size}}
	before := heap()
	for range many {
		s := strings.Repeat("ab", size/2)
		send(t, l, 2, s, cut...)
		s = line.Apply(s[:257], line.Damage{Kind: line.Drop, At: 1, N: size})
		kept = append(kept, s)
	}
	if grown := heap() - before; grown > many*size/3 {
		t.Errorf("%d pieces and texts of 2 bytes keep %d bytes", 2*many, grown)
	}
	waits(t, l, many, 2*many)
	if kept[0] != "aa" {
		t.Errorf("%q is kept", kept[0])
	}
}

// P12.7

// The same calls, as they fall: all that was handed over, and what waits, are the pieces that were sent, as they were damaged, in order.
func TestAllIsHandedOver(t *testing.T) {
	for seed := range 300 {
		d, l, p := dice(seed), line.New(), &plainLine{}
		var sent, handed string
		for range 200 {
			if d.roll(2) == 0 {
				s := count(d.roll(12))
				damages := make([]line.Damage, d.roll(4))
				piece := s
				for i := range damages {
					damages[i] = d.damage(piece)
					piece = line.Apply(piece, damages[i])
				}
				sent += piece
				send(t, l, p.send(s, damages...), s, damages...)
			} else {
				n := d.roll(9) - 1
				if d.roll(9) == 0 {
					n = ns[d.roll(len(ns))]
				}
				want := p.hand(n)
				handed += want
				hand(t, l, n, want)
			}
			waits(t, l, len(p.ends), len(p.text))
			if len(handed)+l.Waits() != len(sent) {
				t.Fatalf("seed %d: %d bytes handed over, %d wait, of %d", seed, len(handed), l.Waits(), len(sent))
			}
		}
		for l.Pieces() > 0 {
			handed += l.Hand(d.roll(9))
		}
		if handed != sent {
			t.Fatalf("seed %d: handed over %q of %q", seed, short(handed), short(sent))
		}
		waits(t, l, 0, 0)
	}
}

// No damage makes more than 255 bytes more, and one does just so many.
func TestMostBytesMore(t *testing.T) {
	most := 0
	for _, s := range texts {
		for _, kind := range kinds {
			for _, at := range places(s) {
				for _, n := range ns {
					most = max(most, len(line.Apply(s, line.Damage{Kind: kind, At: at, Byte: 1, N: n}))-len(s))
				}
			}
		}
	}
	if most != 255 {
		t.Errorf("%d bytes more", most)
	}
}

// As many pieces as come, in order, while others are handed over.
func TestManyPieces(t *testing.T) {
	l := line.New()
	const many = 50000
	at := 0
	for n := range many {
		send(t, l, 3, string([]byte{byte(n), byte(n >> 8), byte(n >> 16)}))
		if n%3 > 0 {
			hand(t, l, 3, string([]byte{byte(at), byte(at >> 8), byte(at >> 16)}))
			at++
		}
	}
	waits(t, l, many-at, 3*(many-at))
	for ; at < many; at++ {
		hand(t, l, 0, string([]byte{byte(at), byte(at >> 8), byte(at >> 16)}))
	}
	waits(t, l, 0, 0)
}

// The chapter's examples.
func TestExamples(t *testing.T) {
	apply(t, "abcd", line.Damage{Kind: line.Drop, At: 1, N: 2}, "ad")
	apply(t, "abcd", line.Damage{Kind: line.Drop, At: 3, N: 9}, "abc")
	apply(t, "abcd", line.Damage{Kind: line.Flip, At: 0, Byte: 0x20}, "Abcd")
	apply(t, "ab", line.Damage{Kind: line.Insert, At: 2, Byte: 'x', N: 2}, "abxx")
	l := line.New()
	send(t, l, 3, "abc")
	send(t, l, 2, "de")
	hand(t, l, 2, "ab")
	hand(t, l, 2, "c")
	hand(t, l, 0, "de")
}
