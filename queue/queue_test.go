package queue_test

import (
	"math"
	"strings"
	"testing"

	"partyline/queue"
)

// short is what is told of a text when a test fails.
func short(s string) string {
	if len(s) > 40 {
		return s[:40] + ".."
	}
	return s
}

// same holds bytes that were answered against those that are asked.
func same(t *testing.T, name string, n int, got, want string) {
	t.Helper()
	if got != want {
		t.Fatalf("%s(%d): %d bytes, %q, not %d, %q", name, n, len(got), short(got), len(want), short(want))
	}
}

// number holds a number that was answered against the one that is asked.
func number(t *testing.T, name string, got, want int) {
	t.Helper()
	if got != want {
		t.Fatalf("%s: %d, not %d", name, got, want)
	}
}

func put(t *testing.T, q *queue.Queue, s string, want int) {
	t.Helper()
	number(t, "Put", q.Put(s), want)
}

func next(t *testing.T, q *queue.Queue, n int, want string) {
	t.Helper()
	same(t, "Next", n, q.Next(n), want)
}

func peek(t *testing.T, q *queue.Queue, n int, want string) {
	t.Helper()
	same(t, "Peek", n, q.Peek(n), want)
}

func clears(t *testing.T, q *queue.Queue, want int) {
	t.Helper()
	number(t, "Clear", q.Clear(), want)
}

func has(t *testing.T, q *queue.Queue, count, free int) {
	t.Helper()
	number(t, "Len", q.Len(), count)
	number(t, "Free", q.Free(), free)
}

// like asks all of a queue that changes nothing.
func like(t *testing.T, q *queue.Queue, p *plainQueue) {
	t.Helper()
	has(t, q, len(p.row), p.free())
	peek(t, q, math.MaxInt, p.row)
}

// ends takes all out of a queue, and goes round its ring once more: all of it is as the plain one.
func ends(t *testing.T, q *queue.Queue, p *plainQueue) {
	t.Helper()
	like(t, q, p)
	for _, n := range []int{1, len(p.row) / 2, p.room} {
		next(t, q, n, p.next(n))
		like(t, q, p)
	}
	for i := range 3 {
		s := bytesFrom(100*i, p.room+1)
		put(t, q, s, p.put(s))
		like(t, q, p)
		next(t, q, p.room-1, p.next(p.room-1))
	}
	like(t, q, p)
}

// at is a queue of a room, whose bytes, so many, begin at that place of its ring.
func at(t *testing.T, room, place, count int) (*queue.Queue, *plainQueue) {
	t.Helper()
	q, p := queue.New(room), newPlain(room)
	put(t, q, bytesFrom(7, place), place)
	next(t, q, place, bytesFrom(7, place))
	p.row = bytesFrom(30, count)
	put(t, q, p.row, count)
	like(t, q, p)
	return q, p
}

// places are some of a ring, its ends among them.
func places(room int) []int { return counts(room - 1) }

// P18.1

func TestQueueOfEachRoom(t *testing.T) {
	for _, x := range rooms {
		q, p := queue.New(x.room), newPlain(x.room)
		number(t, "room", p.room, x.counts)
		has(t, q, 0, x.counts)
		ends(t, q, p)
	}
	s := bytesFrom(1, 5000)
	for room := range 4200 {
		q := queue.New(room)
		has(t, q, 0, plainRoom(room))
		put(t, q, s, plainRoom(room))
		has(t, q, plainRoom(room), 0)
		next(t, q, 5000, s[:plainRoom(room)])
	}
}

// Each Put at the edges, from places of the ring, with none, some and all bytes that there may be.
func TestPutAtItsEdges(t *testing.T) {
	for _, room := range []int{1, 2, 3, 5, 64, 4095, 4096} {
		for _, place := range places(room) {
			for _, count := range counts(room) {
				for _, n := range []int{0, 1, 2, room - count - 1, room - count, room - count + 1, room - 1, room, room + 1, 4095, 4096, 4097, 10000} {
					q, p := at(t, room, place, count)
					s := bytesFrom(60, max(n, 0))
					put(t, q, s, p.put(s))
					ends(t, q, p)
				}
			}
		}
	}
}

func TestPutByHand(t *testing.T) {
	q := queue.New(5)
	put(t, q, "", 0)
	has(t, q, 0, 5)
	put(t, q, "a", 1)
	put(t, q, "", 0)
	put(t, q, "bcd", 3)
	// One byte has place.
	put(t, q, "", 0)
	put(t, q, "efg", 1)
	// None has.
	put(t, q, "h", 0)
	put(t, q, "", 0)
	put(t, q, strings.Repeat("i", 5000), 0)
	peek(t, q, 9, "abcde")
	next(t, q, 1, "a")
	put(t, q, "jk", 1)
	peek(t, q, 9, "bcdej")
	next(t, q, 5, "bcdej")
	// Just as many as there is room for, one less, and one more.
	put(t, q, "12345", 5)
	next(t, q, 5, "12345")
	put(t, q, "1234", 4)
	next(t, q, 4, "1234")
	put(t, q, "123456", 5)
	next(t, q, 5, "12345")
	has(t, q, 0, 5)
}

func TestPutOfMuch(t *testing.T) {
	s := bytesFrom(3, 1<<20)
	for _, room := range []int{1, 5, 4095, 4096, math.MaxInt} {
		q := queue.New(room)
		put(t, q, s, plainRoom(room))
		put(t, q, s, 0)
		next(t, q, math.MaxInt, s[:plainRoom(room)])
		put(t, q, s[9:], plainRoom(room))
		next(t, q, math.MaxInt, s[9:9+plainRoom(room)])
	}
}

func TestEachOctet(t *testing.T) {
	var all strings.Builder
	q := queue.New(3)
	for octet := range 256 {
		s := string([]byte{byte(octet)})
		all.WriteString(s)
		put(t, q, s, 1)
		peek(t, q, 1, s)
		next(t, q, 1, s)
		put(t, q, s+"\x00"+s, 3)
		next(t, q, 2, s+"\x00")
		next(t, q, 2, s)
	}
	q = queue.New(256)
	for place := range 256 {
		put(t, q, all.String(), 256)
		peek(t, q, 256, all.String())
		next(t, q, place, all.String()[:place])
		next(t, q, 256, all.String()[place:])
		put(t, q, "x", 1)
		next(t, q, 1, "x")
	}
}

// Bytes are counted, whatever they would be as runes.
func TestNoText(t *testing.T) {
	q := queue.New(4)
	put(t, q, "\u20ac\u20ac", 4)
	next(t, q, 2, "\xe2\x82")
	put(t, q, "\xff\xfe\xc3", 2)
	peek(t, q, 3, "\xac\xe2\xff")
	next(t, q, 9, "\xac\xe2\xff\xfe")
	for _, s := range []string{"\x00", "\x00\x00\x00", "\x80", "\xc0\x80", "\xed\xa0\x80", "\xf4\x90", "\xff\xff\xff\xff", "\xef\xbf\xbd", "a\x00b"} {
		put(t, q, s, len(s))
		peek(t, q, len(s), s)
		next(t, q, 1, s[:1])
		next(t, q, 4, s[1:])
	}
}

// P18.2

// Each Peek and each Next at the edges, from places of the ring, with none, some and all bytes that there may be.
func TestPeekAndNextAtTheirEdges(t *testing.T) {
	for _, room := range []int{1, 2, 3, 5, 64, 4095, 4096} {
		for _, place := range places(room) {
			for _, count := range counts(room) {
				for _, n := range edges(count, room-place) {
					q, p := at(t, room, place, count)
					peek(t, q, n, p.peek(n))
					like(t, q, p)
					next(t, q, n, p.next(n))
					ends(t, q, p)
				}
			}
		}
	}
}

func TestPeekAndNextByHand(t *testing.T) {
	q := queue.New(5)
	for _, n := range []int{math.MinInt, -1, 0, 1, 2, 5, math.MaxInt} {
		peek(t, q, n, "")
		next(t, q, n, "")
		has(t, q, 0, 5)
	}
	put(t, q, "abcd", 4)
	for _, n := range []int{math.MinInt, -4, -1, 0} {
		peek(t, q, n, "")
		next(t, q, n, "")
		has(t, q, 4, 1)
	}
	peek(t, q, 1, "a")
	peek(t, q, 3, "abc")
	peek(t, q, 4, "abcd")
	peek(t, q, 5, "abcd")
	peek(t, q, math.MaxInt, "abcd")
	next(t, q, 1, "a")
	peek(t, q, 1, "b")
	next(t, q, 2, "bc")
	next(t, q, math.MaxInt, "d")
	next(t, q, math.MaxInt, "")
	has(t, q, 0, 5)
}

// However often is looked, the queue is as it was.
func TestPeekChangesNothing(t *testing.T) {
	for room := 1; room <= 9; room++ {
		for place := range room {
			for count := range room + 1 {
				q, p := at(t, room, place, count)
				for _, n := range edges(count, room-place) {
					peek(t, q, n, p.peek(n))
					peek(t, q, n, p.peek(n))
				}
				ends(t, q, p)
			}
		}
	}
}

// All that a small queue can be, and each Put, Peek, Next and Clear of it.
func TestSmallRoomsThroughout(t *testing.T) {
	for room := 1; room <= 7; room++ {
		for place := range room {
			for count := range room + 1 {
				for n := -1; n <= room+2; n++ {
					q, p := at(t, room, place, count)
					s := bytesFrom(90, max(n, 0))
					put(t, q, s, p.put(s))
					like(t, q, p)
					for m := -1; m <= room+2; m++ {
						peek(t, q, m, p.peek(m))
						q, p := at(t, room, place, count)
						put(t, q, s, p.put(s))
						next(t, q, m, p.next(m))
						ends(t, q, p)
					}
					clears(t, q, p.clear())
					ends(t, q, p)
				}
			}
		}
	}
}

// P18.3

// Byte by byte, till it is full, and till it is empty, from each place of the ring.
func TestLenAndFreeAtEachStep(t *testing.T) {
	for _, room := range []int{1, 2, 3, 5, 64, 257} {
		q := queue.New(room)
		for place := range room + 2 {
			for n := range room {
				has(t, q, n, room-n)
				put(t, q, string([]byte{byte(n + place)}), 1)
			}
			has(t, q, room, 0)
			put(t, q, "x", 0)
			for n := range room {
				has(t, q, room-n, n)
				next(t, q, 1, string([]byte{byte(n + place)}))
			}
			has(t, q, 0, room)
			next(t, q, 1, "")
			put(t, q, "y", 1)
			next(t, q, 1, "y")
		}
	}
}

// A Clear of none, of some, of all, from places of the ring, and what is put behind it.
func TestClear(t *testing.T) {
	for _, room := range []int{1, 2, 3, 5, 64, 4095, 4096} {
		for _, place := range places(room) {
			for _, count := range counts(room) {
				q, p := at(t, room, place, count)
				clears(t, q, count)
				has(t, q, 0, room)
				peek(t, q, 1, "")
				next(t, q, 1, "")
				clears(t, q, 0)
				p.clear()
				ends(t, q, p)
				clears(t, q, p.clear())
				s := bytesFrom(200, room)
				put(t, q, s, room)
				peek(t, q, room, s)
				clears(t, q, room)
				clears(t, q, 0)
				ends(t, q, p)
			}
		}
	}
}

func TestClearByHand(t *testing.T) {
	q := queue.New(5)
	clears(t, q, 0)
	put(t, q, "abcd", 4)
	clears(t, q, 4)
	clears(t, q, 0)
	has(t, q, 0, 5)
	put(t, q, "xyz", 3)
	next(t, q, 1, "x")
	clears(t, q, 2)
	put(t, q, "123456", 5)
	peek(t, q, 9, "12345")
	clears(t, q, 5)
	put(t, q, "q", 1)
	next(t, q, 9, "q")
	has(t, q, 0, 5)
}

// P18.5

// taken goes through calls as they fall, and holds what is taken and left against what was put.
func taken(t *testing.T, q *queue.Queue, p *plainQueue, d *dice, calls int) {
	t.Helper()
	var in, out strings.Builder
	in.WriteString(p.row)
	for i := range calls {
		n := d.roll(p.room+6) - 3
		switch d.roll(5) {
		case 0, 1:
			s := bytesFrom(i, max(n, 0))
			took := p.put(s)
			put(t, q, s, took)
			in.WriteString(s[:took])
		case 2:
			peek(t, q, n, p.peek(n))
		case 3, 4:
			s := q.Next(n)
			same(t, "Next", n, s, p.next(n))
			out.WriteString(s)
		}
		has(t, q, len(p.row), p.free())
	}
	// One behind the other: what was taken, and what is left.
	same(t, "all", calls, out.String()+q.Peek(math.MaxInt), in.String())
}

func TestCallsAsTheyFall(t *testing.T) {
	d := dice(181)
	for room := range 120 {
		q, p := queue.New(room), newPlain(room)
		for range 5 {
			taken(t, q, p, &d, 200)
			// But by Clear no byte is lost.
			clears(t, q, p.clear())
		}
	}
	for _, x := range rooms {
		taken(t, queue.New(x.room), newPlain(x.room), &d, 100)
	}
}

// What was done ahead leaves nothing behind: bytes go round and round.
func TestRoundAndRound(t *testing.T) {
	for _, room := range []int{1, 2, 5, 64, 4095, 4096} {
		for _, n := range []int{1, 2, 3, room/2 + 1, room - 1, room} {
			if n < 1 || n > room {
				continue
			}
			q := queue.New(room)
			// So many wait always, and as many go through.
			put(t, q, bytesFrom(0, room-n), room-n)
			for i := range 600 {
				put(t, q, bytesFrom(i*n+room-n, n), n)
				has(t, q, room, 0)
				put(t, q, "!", 0)
				next(t, q, n, bytesFrom(i*n, n))
				has(t, q, room-n, n)
			}
			next(t, q, room, bytesFrom(600*n, room-n))
			has(t, q, 0, room)
		}
	}
}

// Objects of all kinds.

func TestNilQueue(t *testing.T) { nothing(t, nil) }

// What New did not make has no room.
func TestQueueThatNewDidNotMake(t *testing.T) {
	nothing(t, &queue.Queue{})
	nothing(t, new(queue.Queue))
}

// nothing asks a queue that has no bytes, and no room.
func nothing(t *testing.T, q *queue.Queue) {
	t.Helper()
	for range 2 {
		for _, s := range []string{"", "a", "ab", bytesFrom(0, 4096), bytesFrom(0, 4097)} {
			put(t, q, s, 0)
			has(t, q, 0, 0)
		}
		for _, n := range edges() {
			peek(t, q, n, "")
			next(t, q, n, "")
			has(t, q, 0, 0)
		}
		clears(t, q, 0)
	}
}

func TestManySideBySide(t *testing.T) {
	const many = 20
	d := dice(182)
	var queues [many]*queue.Queue
	var plain [many]*plainQueue
	for i := range many {
		room := 3 * (i / 2) // two of each room
		queues[i], plain[i] = queue.New(room), newPlain(room)
	}
	for step := range 5000 {
		i := d.roll(many)
		n := d.roll(plain[i].room+4) - 1
		switch d.roll(10) {
		case 0, 1, 2, 3:
			s := bytesFrom(step, max(n, 0))
			put(t, queues[i], s, plain[i].put(s))
		case 4, 5:
			peek(t, queues[i], n, plain[i].peek(n))
		case 6, 7, 8:
			next(t, queues[i], n, plain[i].next(n))
		case 9:
			clears(t, queues[i], plain[i].clear())
		}
		for i := range many {
			like(t, queues[i], plain[i])
		}
	}
}

func TestExamples(t *testing.T) {
	q := queue.New(5)
	put(t, q, "abc", 3)
	put(t, q, "def", 2)
	has(t, q, 5, 0)
	next(t, q, 2, "ab")
	put(t, q, "xyz", 2)
	peek(t, q, 9, "cdexy")
	clears(t, q, 5)
}
