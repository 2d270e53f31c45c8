package buffer_test

import (
	"math"
	"strings"
	"testing"
	"unsafe"
)

// P19.5

// lying is a text that lies in bytes, which may be changed behind its back.
func lying(s string) ([]byte, string) {
	b := []byte(s + "behind")
	return b, unsafe.String(unsafe.SliceData(b), len(s))
}

func TestWhatIsPutIsOnlyReadAndNotKept(t *testing.T) {
	for _, room := range []int{1, 2, 5, 4096} {
		for _, place := range places(room) {
			for _, n := range []int{0, 1, 2, room - 1, room, room + 1, 2 * room} {
				b, p := at(t, room, 0, place, 0)
				was := bytesFrom(50, n)
				data, s := lying(was)
				put(t, b, s, p.put(was))
				like(t, b, p)
				if string(data) != was+"behind" {
					t.Fatalf("room %d: what was put is changed", room)
				}
				for i := range data {
					data[i] = '#'
				}
				ends(t, b, p)
				if strings.Trim(string(data), "#") != "" {
					t.Fatalf("room %d: what was put is changed later", room)
				}
			}
		}
	}
}

// What was answered stays, whatever the buffer does later.
func TestAnswersStay(t *testing.T) {
	for _, room := range []int{1, 2, 5, 64, 4096} {
		for _, place := range places(room) {
			for _, n := range counts(room) {
				b, p := at(t, room, 1, place, room)
				first, second := b.Get(n), b.Get(room)
				wantFirst, wantSecond := p.get(n), p.get(room)
				for i := range 5 {
					s := bytesFrom(120+i, room)
					put(t, b, s, p.put(s))
					get(t, b, room/2+1, p.get(room/2+1))
				}
				get(t, b, room, p.get(room))
				put(t, b, strings.Repeat("#", room), room)
				same(t, "Get", n, first, wantFirst)
				same(t, "Get", room, second, wantSecond)
			}
		}
	}
}

// overlap asks whether two texts share memory.
func overlap(a, b string) bool {
	from, other := uintptr(unsafe.Pointer(unsafe.StringData(a))), uintptr(unsafe.Pointer(unsafe.StringData(b)))
	return a != "" && b != "" && from < other+uintptr(len(b)) && other < from+uintptr(len(a))
}

func TestAnswersAreNewMemory(t *testing.T) {
	for _, room := range []int{1, 2, 5, 64} {
		for _, place := range places(room) {
			b, _ := at(t, room, 1, place, 0)
			s := bytesFrom(5, room)
			all := []string{s}
			for range 3 {
				for _, n := range []int{1, 2, room, math.MaxInt} {
					put(t, b, s, room)
					all = append(all, b.Get(1), b.Get(n), b.Get(room))
				}
			}
			for i, a := range all {
				for _, other := range all[:i] {
					if overlap(a, other) {
						t.Fatalf("room %d: %q and %q share memory", room, short(a), short(other))
					}
				}
			}
		}
	}
}

// What is answered may be changed, and the buffer stays as it is.
func TestAnswersAreNotTheBuffers(t *testing.T) {
	for _, room := range []int{1, 2, 5, 64, 4096} {
		for _, place := range places(room) {
			for _, n := range counts(room) {
				b, p := at(t, room, 1, place, room)
				s := b.Get(n)
				p.get(n)
				data := unsafe.Slice(unsafe.StringData(s), len(s))
				for i := range data {
					data[i] = '#'
				}
				ends(t, b, p)
			}
		}
	}
}
