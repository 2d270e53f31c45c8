package queue_test

import (
	"math"
	"strings"
	"testing"
	"unsafe"
)

// P18.4

// lying is a text that lies in bytes, which may be changed behind its back.
func lying(s string) ([]byte, string) {
	b := []byte(s + "behind")
	return b, unsafe.String(unsafe.SliceData(b), len(s))
}

func TestWhatIsPutIsOnlyReadAndNotKept(t *testing.T) {
	for _, room := range []int{1, 2, 5, 4096} {
		for _, place := range places(room) {
			for _, n := range []int{0, 1, 2, room - 1, room, room + 1, 2 * room} {
				q, p := at(t, room, place, 0)
				was := bytesFrom(50, n)
				b, s := lying(was)
				put(t, q, s, p.put(was))
				like(t, q, p)
				if string(b) != was+"behind" {
					t.Fatalf("room %d: what was put is changed", room)
				}
				for i := range b {
					b[i] = '#'
				}
				ends(t, q, p)
				if strings.Trim(string(b), "#") != "" {
					t.Fatalf("room %d: what was put is changed later", room)
				}
			}
		}
	}
}

// What was answered stays, whatever the queue does later.
func TestAnswersStay(t *testing.T) {
	for _, room := range []int{1, 2, 5, 64, 4096} {
		for _, place := range places(room) {
			for _, n := range counts(room) {
				q, p := at(t, room, place, room)
				seen, took := q.Peek(n), q.Next(n)
				want := p.next(n)
				for i := range 5 {
					s := bytesFrom(120+i, room)
					put(t, q, s, p.put(s))
					next(t, q, room/2+1, p.next(room/2+1))
				}
				clears(t, q, p.clear())
				put(t, q, strings.Repeat("#", room), room)
				same(t, "seen", n, seen, want)
				same(t, "took", n, took, want)
			}
		}
	}
}

// overlap asks whether two texts share memory.
func overlap(a, b string) bool {
	from, other := uintptr(unsafe.Pointer(unsafe.StringData(a))), uintptr(unsafe.Pointer(unsafe.StringData(b)))
	return a != "" && b != "" && from < other+uintptr(len(b)) && other < from+uintptr(len(a))
}

func TestAnswersAreNewMemory(t *testing.T) {
	for _, room := range []int{1, 2, 5, 64} {
		for _, place := range places(room) {
			q, _ := at(t, room, place, 0)
			s := bytesFrom(5, room)
			all := []string{s}
			for range 3 {
				put(t, q, s, room)
				for _, n := range []int{1, 1, 2, room, math.MaxInt} {
					all = append(all, q.Peek(n))
				}
				all = append(all, q.Next(1), q.Peek(1), q.Next(1), q.Next(room))
			}
			for i, a := range all {
				for _, b := range all[:i] {
					if overlap(a, b) {
						t.Fatalf("room %d: %q and %q share memory", room, short(a), short(b))
					}
				}
			}
		}
	}
}

// What is answered may be changed, and the queue stays as it is.
func TestAnswersAreNotTheQueues(t *testing.T) {
	for _, room := range []int{1, 2, 5, 64, 4096} {
		for _, place := range places(room) {
			q, p := at(t, room, place, room)
			for _, s := range []string{q.Peek(1), q.Peek(room), q.Peek(math.MaxInt)} {
				b := unsafe.Slice(unsafe.StringData(s), len(s))
				for i := range b {
					b[i] = '#'
				}
			}
			ends(t, q, p)
		}
	}
}
