package buffer_test

import (
	"math"
	"strings"
	"testing"

	"partyline/buffer"
)

// short is what is told of a text when a test fails.
func short(s string) string {
	if len(s) > 40 {
		return s[:40] + ".."
	}
	return s
}

// same holds bytes that were answered against those that are asked.
func same(t *testing.T, name string, n int, got, want string) {
	t.Helper()
	if got != want {
		t.Fatalf("%s(%d): %d bytes, %q, not %d, %q", name, n, len(got), short(got), len(want), short(want))
	}
}

// number holds a number that was answered against the one that is asked.
func number(t *testing.T, name string, got, want int) {
	t.Helper()
	if got != want {
		t.Fatalf("%s: %d, not %d", name, got, want)
	}
}

// newBuffer is a buffer that may be, and the plain one beside it.
func newBuffer(t *testing.T, room, mark int) (*buffer.Buffer, *plainBuffer) {
	t.Helper()
	b := buffer.New(room, mark)
	if b == nil {
		t.Fatalf("New(%d, %d): nil", room, mark)
	}
	return b, &plainBuffer{room: room, mark: mark}
}

func put(t *testing.T, b *buffer.Buffer, data string, want int) {
	t.Helper()
	number(t, "Put", b.Put(data), want)
}

func get(t *testing.T, b *buffer.Buffer, most int, want string) {
	t.Helper()
	same(t, "Get", most, b.Get(most), want)
}

// has asks all of a buffer that changes nothing.
func has(t *testing.T, b *buffer.Buffer, count, free int, high, low bool) {
	t.Helper()
	number(t, "Len", b.Len(), count)
	number(t, "Free", b.Free(), free)
	if b.High() != high || b.Low() != low {
		t.Fatalf("%d held, %d free: High %v, Low %v, not %v, %v", count, free, b.High(), b.Low(), high, low)
	}
}

func like(t *testing.T, b *buffer.Buffer, p *plainBuffer) {
	t.Helper()
	has(t, b, len(p.row), p.free(), p.high(), p.low())
}

// ends takes all out of a buffer, and goes round its ring once more: all of it is as the plain one.
func ends(t *testing.T, b *buffer.Buffer, p *plainBuffer) {
	t.Helper()
	like(t, b, p)
	for _, n := range []int{1, len(p.row) / 2, p.room} {
		get(t, b, n, p.get(n))
		like(t, b, p)
	}
	for i := range 3 {
		s := bytesFrom(100*i, p.room+1)
		put(t, b, s, p.put(s))
		like(t, b, p)
		get(t, b, p.room-1, p.get(p.room-1))
	}
	like(t, b, p)
	get(t, b, math.MaxInt, p.get(math.MaxInt))
	like(t, b, p)
}

// at is a buffer of a room and a mark, whose bytes, so many, begin at that place of its ring.
func at(t *testing.T, room, mark, place, count int) (*buffer.Buffer, *plainBuffer) {
	t.Helper()
	b, p := newBuffer(t, room, mark)
	put(t, b, bytesFrom(7, place), place)
	get(t, b, place, bytesFrom(7, place))
	p.row = bytesFrom(30, count)
	put(t, b, p.row, count)
	like(t, b, p)
	return b, p
}

// P19.1

func TestBufferOfEachRoomAndMark(t *testing.T) {
	for _, room := range rooms {
		for _, mark := range marks(room) {
			b, p := newBuffer(t, room, mark)
			has(t, b, 0, room, false, true)
			ends(t, b, p)
		}
	}
	s := bytesFrom(1, 5000)
	for room := 1; room <= 4096; room++ {
		b, _ := newBuffer(t, room, room/3)
		has(t, b, 0, room, false, true)
		put(t, b, s, room)
		has(t, b, room, 0, room >= 3, room < 3)
		get(t, b, 5000, s[:room])
		has(t, b, 0, room, false, true)
	}
}

// What is no room, or no mark of it, makes no buffer, whatever the other one is.
func TestNoBuffer(t *testing.T) {
	for _, room := range noRooms {
		for _, mark := range edges(room) {
			none(t, room, mark)
		}
	}
	for _, room := range rooms {
		for _, mark := range edges(room, room/2) {
			if mark < 0 || mark > room {
				none(t, room, mark)
			} else {
				b, p := newBuffer(t, room, mark)
				ends(t, b, p)
			}
		}
	}
	for room := -3; room <= 20; room++ {
		for mark := -3; mark <= 25; mark++ {
			may := 1 <= room && 0 <= mark && mark <= room
			if b := buffer.New(room, mark); (b != nil) != may {
				t.Fatalf("New(%d, %d): %v, not %v", room, mark, b != nil, may)
			}
		}
	}
}

func none(t *testing.T, room, mark int) {
	t.Helper()
	if buffer.New(room, mark) != nil {
		t.Fatalf("New(%d, %d): not nil", room, mark)
	}
}

// P19.2

// Each Put at the edges, from places of the ring, with none, some and all bytes that there may be.
func TestPutAtItsEdges(t *testing.T) {
	for _, room := range []int{1, 2, 3, 5, 64, 4095, 4096} {
		for _, place := range places(room) {
			for _, count := range counts(room) {
				for _, n := range []int{0, 1, 2, room - count - 1, room - count, room - count + 1, room - 1, room, room + 1, 4095, 4096, 4097, 10000} {
					b, p := at(t, room, room/3, place, count)
					s := bytesFrom(60, max(n, 0))
					put(t, b, s, p.put(s))
					ends(t, b, p)
				}
			}
		}
	}
}

func TestPutByHand(t *testing.T) {
	b, _ := newBuffer(t, 5, 2)
	put(t, b, "", 0)
	has(t, b, 0, 5, false, true)
	put(t, b, "a", 1)
	put(t, b, "", 0)
	put(t, b, "bcd", 3)
	// There is room for one byte.
	put(t, b, "", 0)
	has(t, b, 4, 1, true, false)
	put(t, b, "efg", 1)
	// There is room for none.
	put(t, b, "h", 0)
	put(t, b, "", 0)
	put(t, b, strings.Repeat("i", 5000), 0)
	has(t, b, 5, 0, true, false)
	get(t, b, 1, "a")
	put(t, b, "jk", 1)
	get(t, b, 5, "bcdej")
	// Just as many as there is room for, one less, and one more.
	put(t, b, "12345", 5)
	get(t, b, 5, "12345")
	put(t, b, "1234", 4)
	get(t, b, 4, "1234")
	put(t, b, "123456", 5)
	get(t, b, 5, "12345")
	has(t, b, 0, 5, false, true)
}

func TestPutOfMuch(t *testing.T) {
	s := bytesFrom(3, 1<<20)
	for _, room := range []int{1, 5, 4095, 4096} {
		b, _ := newBuffer(t, room, 1)
		put(t, b, s, room)
		put(t, b, s, 0)
		get(t, b, math.MaxInt, s[:room])
		put(t, b, s[9:], room)
		get(t, b, math.MaxInt, s[9:9+room])
	}
}

func TestEachOctet(t *testing.T) {
	var all strings.Builder
	b, _ := newBuffer(t, 3, 1)
	for octet := range 256 {
		s := string([]byte{byte(octet)})
		all.WriteString(s)
		put(t, b, s, 1)
		get(t, b, 1, s)
		put(t, b, s+"\x00"+s, 3)
		get(t, b, 2, s+"\x00")
		get(t, b, 2, s)
	}
	b, _ = newBuffer(t, 256, 256)
	for place := range 256 {
		put(t, b, all.String(), 256)
		get(t, b, place, all.String()[:place])
		get(t, b, 256, all.String()[place:])
		put(t, b, "x", 1)
		get(t, b, 1, "x")
	}
}

// Bytes are counted, whatever they would be as runes.
func TestNoText(t *testing.T) {
	b, _ := newBuffer(t, 4, 0)
	put(t, b, "\u20ac\u20ac", 4)
	get(t, b, 2, "\xe2\x82")
	put(t, b, "\xff\xfe\xc3", 2)
	get(t, b, 9, "\xac\xe2\xff\xfe")
	for _, s := range []string{"\x00", "\x00\x00\x00", "\x80", "\xc0\x80", "\xed\xa0\x80", "\xf4\x90", "\xff\xff\xff\xff", "\xef\xbf\xbd", "a\x00b"} {
		put(t, b, s, len(s))
		get(t, b, 1, s[:1])
		get(t, b, 4, s[1:])
	}
}

// P19.3

// Each Get at the edges, from places of the ring, with none, some and all bytes that there may be.
func TestGetAtItsEdges(t *testing.T) {
	for _, room := range []int{1, 2, 3, 5, 64, 4095, 4096} {
		for _, place := range places(room) {
			for _, count := range counts(room) {
				for _, most := range edges(count, room-place) {
					b, p := at(t, room, room/4, place, count)
					get(t, b, most, p.get(most))
					ends(t, b, p)
				}
			}
		}
	}
}

func TestGetByHand(t *testing.T) {
	b, _ := newBuffer(t, 5, 1)
	for _, most := range []int{math.MinInt, -1, 0, 1, 2, 5, math.MaxInt} {
		get(t, b, most, "")
		has(t, b, 0, 5, false, true)
	}
	put(t, b, "abcd", 4)
	for _, most := range []int{math.MinInt, -4, -1, 0} {
		get(t, b, most, "")
		has(t, b, 4, 1, false, false)
	}
	get(t, b, 1, "a")
	get(t, b, 2, "bc")
	get(t, b, math.MaxInt, "d")
	get(t, b, math.MaxInt, "")
	has(t, b, 0, 5, false, true)
	// As many as there are, one less, and one more.
	put(t, b, "efgh", 4)
	get(t, b, 4, "efgh")
	put(t, b, "ijkl", 4)
	get(t, b, 3, "ijk")
	get(t, b, 2, "l")
	has(t, b, 0, 5, false, true)
}

// All that a small buffer can be, and each Put and Get of it.
func TestSmallRoomsThroughout(t *testing.T) {
	for room := 1; room <= 7; room++ {
		for mark := range room + 1 {
			for place := range room {
				for count := range room + 1 {
					for n := range room + 3 {
						for most := -1; most <= room+2; most++ {
							b, p := at(t, room, mark, place, count)
							s := bytesFrom(90, n)
							put(t, b, s, p.put(s))
							like(t, b, p)
							get(t, b, most, p.get(most))
							ends(t, b, p)
						}
					}
				}
			}
		}
	}
}

// P19.4

// Byte by byte, till it is full, and till it is empty, from each place of the ring.
func TestLenAndFreeAtEachStep(t *testing.T) {
	for _, room := range []int{1, 2, 3, 5, 64, 257} {
		b, p := newBuffer(t, room, room/3)
		for place := range room + 2 {
			for n := range room {
				like(t, b, p)
				number(t, "Len", b.Len(), n)
				number(t, "both", b.Len()+b.Free(), room)
				s := string([]byte{byte(n + place)})
				put(t, b, s, p.put(s))
			}
			like(t, b, p)
			number(t, "Free", b.Free(), 0)
			put(t, b, "x", 0)
			for n := range room {
				like(t, b, p)
				number(t, "Free", b.Free(), n)
				number(t, "both", b.Len()+b.Free(), room)
				get(t, b, 1, p.get(1))
			}
			like(t, b, p)
			get(t, b, 1, "")
			put(t, b, "y", 1)
			get(t, b, 1, "y")
		}
	}
}

// High and low just at the mark and at twice the mark, one less and one more, with as many bytes as that needs.
func TestHighAndLowAtTheirEdges(t *testing.T) {
	for _, room := range rooms {
		for _, mark := range marks(room) {
			for _, free := range within(room, 0, 1, mark-1, mark, mark+1, 2*mark-2, 2*mark-1, 2*mark, 2*mark+1, room-1, room) {
				for _, place := range places(room) {
					b, _ := at(t, room, mark, place, room-free)
					has(t, b, room-free, free, free < mark, free == room || free >= 2*mark)
				}
			}
		}
	}
}

func TestHighAndLowByHand(t *testing.T) {
	for _, x := range []struct {
		room, mark, count int
		high, low         bool
	}{
		// Without a mark it is never high, and always low.
		{4, 0, 0, false, true}, {4, 0, 3, false, true}, {4, 0, 4, false, true}, {1, 0, 1, false, true}, {4096, 0, 4096, false, true},
		// Less than the mark is left.
		{10, 3, 8, true, false}, {10, 3, 9, true, false}, {10, 3, 10, true, false}, {1, 1, 1, true, false}, {4096, 1, 4096, true, false}, {4096, 4096, 1, true, false},
		// The mark is left, and less than twice the mark.
		{10, 3, 7, false, false}, {10, 3, 6, false, false}, {10, 3, 5, false, false}, {2, 1, 1, false, false},
		// Twice the mark is left.
		{10, 3, 4, false, true}, {10, 3, 3, false, true}, {10, 3, 1, false, true}, {10, 3, 0, false, true}, {3, 1, 1, false, true}, {2, 1, 0, false, true},
		// There is not room for twice the mark: it is low when nothing is held.
		{10, 5, 0, false, true}, {10, 5, 1, false, false}, {10, 6, 0, false, true}, {10, 6, 1, false, false}, {10, 10, 0, false, true}, {10, 10, 1, true, false}, {1, 1, 0, false, true}, {4096, 4096, 0, false, true},
	} {
		b, _ := newBuffer(t, x.room, x.mark)
		put(t, b, bytesFrom(0, x.count), x.count)
		has(t, b, x.count, x.room-x.count, x.high, x.low)
		// And on the way back.
		put(t, b, bytesFrom(0, 4096), x.room-x.count)
		b.Get(x.room - x.count)
		has(t, b, x.count, x.room-x.count, x.high, x.low)
	}
}

// P19.6

// taken goes through calls as they fall, and holds what was got and is held against what was taken.
func taken(t *testing.T, b *buffer.Buffer, p *plainBuffer, d *dice, calls int) {
	t.Helper()
	var in, out strings.Builder
	in.WriteString(p.row)
	for i := range calls {
		n := d.roll(p.room+6) - 3
		if d.roll(2) == 0 {
			s := bytesFrom(i, max(n, 0))
			took := p.put(s)
			put(t, b, s, took)
			in.WriteString(s[:took])
		} else {
			s := b.Get(n)
			same(t, "Get", n, s, p.get(n))
			out.WriteString(s)
		}
		like(t, b, p)
		bounds(t, b, p.room)
	}
	held := b.Get(math.MaxInt)
	same(t, "held", calls, held, p.get(math.MaxInt))
	bounds(t, b, p.room)
	same(t, "all", calls, out.String()+held, in.String())
}

// bounds asks what holds always.
func bounds(t *testing.T, b *buffer.Buffer, room int) {
	t.Helper()
	if b.Len() < 0 || b.Len() > room || b.Free() < 0 || b.Len()+b.Free() != room {
		t.Fatalf("%d held and %d free of %d", b.Len(), b.Free(), room)
	}
	if b.High() && b.Low() || b.Len() == 0 && !b.Low() {
		t.Fatalf("%d held of %d: High %v, Low %v", b.Len(), room, b.High(), b.Low())
	}
}

func TestCallsAsTheyFall(t *testing.T) {
	d := dice(191)
	for room := 1; room < 120; room++ {
		b, p := newBuffer(t, room, d.roll(room+1))
		for range 5 {
			taken(t, b, p, &d, 200)
		}
	}
	for _, room := range rooms {
		for _, mark := range marks(room) {
			b, p := newBuffer(t, room, mark)
			taken(t, b, p, &d, 50)
		}
	}
}

// What was done ahead leaves nothing behind: bytes go round and round.
func TestRoundAndRound(t *testing.T) {
	for _, room := range []int{1, 2, 5, 64, 4095, 4096} {
		for _, n := range []int{1, 2, 3, room/2 + 1, room - 1, room} {
			if n < 1 || n > room {
				continue
			}
			b, _ := newBuffer(t, room, 0)
			// So many are held always, and as many go through.
			put(t, b, bytesFrom(0, room-n), room-n)
			for i := range 600 {
				put(t, b, bytesFrom(i*n+room-n, n), n)
				has(t, b, room, 0, false, true)
				put(t, b, "!", 0)
				get(t, b, n, bytesFrom(i*n, n))
				has(t, b, room-n, n, false, true)
			}
			get(t, b, room, bytesFrom(600*n, room-n))
			has(t, b, 0, room, false, true)
		}
	}
}

// Objects of all kinds.

func TestNilBuffer(t *testing.T) {
	nothing(t, nil, false)
	for _, room := range noRooms {
		nothing(t, buffer.New(room, 0), false)
	}
}

// What New did not make has no room; as it holds nothing, it is low.
func TestBufferThatNewDidNotMake(t *testing.T) {
	nothing(t, &buffer.Buffer{}, true)
	nothing(t, new(buffer.Buffer), true)
}

// nothing asks a buffer that has no bytes, and no room.
func nothing(t *testing.T, b *buffer.Buffer, low bool) {
	t.Helper()
	for range 2 {
		for _, s := range []string{"", "a", "ab", bytesFrom(0, 4096), bytesFrom(0, 4097)} {
			put(t, b, s, 0)
			has(t, b, 0, 0, false, low)
		}
		for _, n := range edges() {
			get(t, b, n, "")
			has(t, b, 0, 0, false, low)
		}
	}
}

func TestManySideBySide(t *testing.T) {
	const many = 20
	d := dice(192)
	var buffers [many]*buffer.Buffer
	var plain [many]*plainBuffer
	for i := range many {
		room := 3*(i/2) + 1 // two of each room
		buffers[i], plain[i] = newBuffer(t, room, d.roll(room+1))
	}
	for step := range 5000 {
		i := d.roll(many)
		n := d.roll(plain[i].room+4) - 1
		if d.roll(2) == 0 {
			s := bytesFrom(step, max(n, 0))
			put(t, buffers[i], s, plain[i].put(s))
		} else {
			get(t, buffers[i], n, plain[i].get(n))
		}
		for i := range many {
			like(t, buffers[i], plain[i])
		}
	}
	for i := range many {
		ends(t, buffers[i], plain[i])
	}
}

func TestExamples(t *testing.T) {
	b, _ := newBuffer(t, 4, 2)
	put(t, b, "abc", 3)
	has(t, b, 3, 1, true, false)
	get(t, b, 2, "ab")
	put(t, b, "xyz", 3)
	get(t, b, 9, "cxyz")
	has(t, b, 0, 4, false, true)
}
