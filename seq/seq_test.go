package seq_test

import (
	"math"
	"slices"
	"testing"

	"partyline/seq"
)

// ns are the least and the greatest int, those about the bounds, and some that would be others, if less than all of their bits were read.
var ns = []int{math.MinInt, math.MinInt + 1, math.MinInt + 7, -1<<32 + 3, -1 << 32, math.MinInt32, -257, -256, -253, -128, -17, -16, -10, -9, -8, -7, -6, -5, -4, -3, -2, -1, 0, 1, 2, 3, 4, 5, 6, 7, 8, 9, 10, 15, 16, 17, 127, 128, 255, 256, 257, 259, 65536, math.MaxInt32, 1 << 32, 1<<32 + 3, math.MaxInt - 7, math.MaxInt - 1, math.MaxInt}

// left is what is left of a number that is divided by 8, from 0 on.
func left(n int) int {
	n %= 8
	if n < 0 {
		n += 8
	}
	return n
}

// next is the number next to one, going round.
func next(a uint8) uint8 {
	if a == 7 {
		return 0
	}
	return a + 1
}

// plainAdd adds 1 as often as is left of n.
func plainAdd(a uint8, n int) uint8 {
	a %= 8
	for range left(n) {
		a = next(a)
	}
	return a
}

// plainWay counts how often 1 is added.
func plainWay(a, b uint8) int {
	n := 0
	for x := a % 8; x != b%8; x = next(x) {
		n++
	}
	return n
}

// plainWindow has a number and those next to it.
func plainWindow(a uint8, n int) []uint8 {
	if n < 0 {
		n = 0
	}
	if n > 7 {
		n = 7
	}
	var w []uint8
	for x := a % 8; len(w) < n; x = next(x) {
		w = append(w, x)
	}
	return w
}

// plainAcks goes from va up to and with vs.
func plainAcks(va, vs, nr uint8) (int, bool) {
	n := 0
	for x := va % 8; ; x = next(x) {
		if x == nr%8 {
			return n, true
		}
		if x == vs%8 {
			return 0, false
		}
		n++
	}
}

// P13.1

func TestAddIsNMore(t *testing.T) {
	for a := range 256 {
		for _, n := range ns {
			if got, want := seq.Add(uint8(a), n), plainAdd(uint8(a), n); got != want {
				t.Fatalf("Add(%d, %d): %d, not %d", a, n, got, want)
			}
		}
		for n := -600; n <= 600; n++ {
			if got, want := seq.Add(uint8(a), n), plainAdd(uint8(a), n); got != want {
				t.Fatalf("Add(%d, %d): %d, not %d", a, n, got, want)
			}
		}
	}
}

func TestAddAtEdges(t *testing.T) {
	for _, x := range []struct {
		a    uint8
		n    int
		want uint8
	}{
		{6, 3, 1}, {1, -2, 7}, {7, 1, 0}, {0, -1, 7}, {0, 0, 0}, {5, 8, 5}, {5, -8, 5}, {5, 7, 4}, {5, -7, 6}, {5, 9, 6}, {5, -9, 4},
		{8, 0, 0}, {9, 0, 1}, {255, 0, 7}, {255, 1, 0}, {255, -7, 0},
		{0, math.MinInt, 0}, {3, math.MinInt, 3}, {0, math.MaxInt, 7}, {1, math.MaxInt, 0}, {255, math.MaxInt, 6}, {255, math.MinInt, 7},
	} {
		if got := seq.Add(x.a, x.n); got != x.want {
			t.Errorf("Add(%d, %d): %d, not %d", x.a, x.n, got, x.want)
		}
	}
}

// P13.2

func TestWayCountsOnes(t *testing.T) {
	for a := range 256 {
		for b := range 256 {
			if got, want := seq.Way(uint8(a), uint8(b)), plainWay(uint8(a), uint8(b)); got != want {
				t.Fatalf("Way(%d, %d): %d, not %d", a, b, got, want)
			}
		}
	}
}

func TestWayAtEdges(t *testing.T) {
	for _, x := range []struct {
		a, b uint8
		want int
	}{{6, 1, 3}, {1, 6, 5}, {7, 0, 1}, {0, 7, 7}, {3, 3, 0}, {8, 0, 0}, {0, 8, 0}, {9, 8, 7}, {255, 7, 0}, {255, 8, 1}, {0, 255, 7}} {
		if got := seq.Way(x.a, x.b); got != x.want {
			t.Errorf("Way(%d, %d): %d, not %d", x.a, x.b, got, x.want)
		}
	}
}

// P13.3

func TestInTellsTheWindowsNumbers(t *testing.T) {
	for a := range 256 {
		for _, n := range ns {
			w := plainWindow(uint8(a), n)
			for x := range 256 {
				if got, want := seq.In(uint8(a), n, uint8(x)), slices.Contains(w, uint8(x)%8); got != want {
					t.Fatalf("In(%d, %d, %d): %v, not %v", a, n, x, got, want)
				}
			}
		}
	}
}

func TestInAtEdges(t *testing.T) {
	for _, x := range []struct {
		a    uint8
		n    int
		x    uint8
		want bool
	}{
		{6, 3, 0, true}, {6, 3, 1, false}, {6, 0, 6, false}, {6, 3, 6, true}, {6, 3, 5, false}, {6, 1, 6, true}, {6, 1, 7, false},
		{6, 7, 5, false}, {6, 7, 4, true}, {6, 8, 5, false}, {6, 9, 5, false}, {6, math.MaxInt, 5, false}, {6, math.MaxInt, 4, true},
		{6, -1, 6, false}, {6, math.MinInt, 6, false}, {14, 3, 16, true}, {14, 3, 17, false}, {255, 2, 8, true}, {255, 2, 9, false},
	} {
		if got := seq.In(x.a, x.n, x.x); got != x.want {
			t.Errorf("In(%d, %d, %d): %v", x.a, x.n, x.x, got)
		}
	}
}

func TestWindowHasItsNumbersInOrder(t *testing.T) {
	for a := range 256 {
		for _, n := range ns {
			if got, want := seq.Window(uint8(a), n), plainWindow(uint8(a), n); !slices.Equal(got, want) {
				t.Fatalf("Window(%d, %d): %v, not %v", a, n, got, want)
			}
		}
	}
}

func TestWindowAtEdges(t *testing.T) {
	for _, x := range []struct {
		a    uint8
		n    int
		want []uint8
	}{
		{6, 3, []uint8{6, 7, 0}}, {6, 0, nil}, {6, -1, nil}, {6, math.MinInt, nil}, {7, 1, []uint8{7}}, {7, 2, []uint8{7, 0}},
		{0, 7, []uint8{0, 1, 2, 3, 4, 5, 6}}, {0, 8, []uint8{0, 1, 2, 3, 4, 5, 6}}, {1, 9, []uint8{1, 2, 3, 4, 5, 6, 7}},
		{2, math.MaxInt, []uint8{2, 3, 4, 5, 6, 7, 0}}, {8, 2, []uint8{0, 1}}, {9, 2, []uint8{1, 2}}, {255, 3, []uint8{7, 0, 1}},
	} {
		if got := seq.Window(x.a, x.n); !slices.Equal(got, x.want) {
			t.Errorf("Window(%d, %d): %v, not %v", x.a, x.n, got, x.want)
		}
	}
}

// P13.4

func TestAcksFromVAUpToVS(t *testing.T) {
	for va := range 256 {
		for vs := range 256 {
			for nr := range 256 {
				n, ok := seq.Acks(uint8(va), uint8(vs), uint8(nr))
				wantN, wantOK := plainAcks(uint8(va), uint8(vs), uint8(nr))
				if n != wantN || ok != wantOK {
					t.Fatalf("Acks(%d, %d, %d): %d %v, not %d %v", va, vs, nr, n, ok, wantN, wantOK)
				}
			}
		}
	}
}

func TestAcksAtEdges(t *testing.T) {
	for _, x := range []struct {
		va, vs, nr uint8
		n          int
		ok         bool
	}{
		{6, 1, 0, 2, true}, {6, 1, 6, 0, true}, {6, 1, 2, 0, false}, {6, 1, 1, 3, true}, {6, 1, 5, 0, false},
		{2, 5, 2, 0, true}, {2, 5, 5, 3, true}, {2, 5, 6, 0, false}, {2, 5, 1, 0, false},
		{3, 3, 3, 0, true}, {3, 3, 4, 0, false}, {3, 3, 2, 0, false}, {0, 7, 7, 7, true}, {1, 0, 0, 7, true},
		{14, 9, 8, 2, true}, {14, 9, 10, 0, false}, {255, 8, 16, 1, true}, {255, 255, 7, 0, true}, {255, 7, 8, 0, false},
	} {
		if n, ok := seq.Acks(x.va, x.vs, x.nr); n != x.n || ok != x.ok {
			t.Errorf("Acks(%d, %d, %d): %d %v, not %d %v", x.va, x.vs, x.nr, n, ok, x.n, x.ok)
		}
	}
}

// P13.5

func TestWindowIsNewMemory(t *testing.T) {
	for a := range uint8(8) {
		for _, n := range ns {
			first := seq.Window(a, n)
			other := seq.Window(a, n)
			whole := first[:cap(first)]
			for i := range whole {
				whole[i] = 99
			}
			if want := plainWindow(a, n); !slices.Equal(other, want) || !slices.Equal(seq.Window(a, n), want) {
				t.Fatalf("Window(%d, %d), asked for again: %v", a, n, other)
			}
		}
	}
}

// P13.6

func TestWaysAddUp(t *testing.T) {
	for a := range uint8(16) {
		for b := range uint8(16) {
			if seq.Add(a, seq.Way(a, b)) != b%8 || seq.Add(b, -seq.Way(a, b)) != a%8 {
				t.Errorf("the way from %d to %d does not lead there", a, b)
			}
			for c := range uint8(16) {
				if (seq.Way(a, b)+seq.Way(b, c))%8 != seq.Way(a, c) {
					t.Errorf("the ways from %d to %d and to %d do not add up", a, b, c)
				}
			}
		}
	}
}

func TestAWayAndTheOneBack(t *testing.T) {
	for a := range 256 {
		for b := range 256 {
			want := 8
			if a%8 == b%8 {
				want = 0
			}
			if n := seq.Way(uint8(a), uint8(b)) + seq.Way(uint8(b), uint8(a)); n != want {
				t.Fatalf("from %d to %d and back: %d", a, b, n)
			}
		}
	}
}

func TestNoMoreIsAcknowledgedThanWasSent(t *testing.T) {
	for va := range uint8(8) {
		for sent := range 8 {
			vs := seq.Add(va, sent)
			for nr := range uint8(8) {
				n, ok := seq.Acks(va, vs, nr)
				if n > sent || ok && seq.Add(va, n) != nr {
					t.Errorf("from %d on %d were sent, %d acknowledges %d", va, sent, nr, n)
				}
			}
			if n, ok := seq.Acks(va, vs, seq.Add(vs, 1)); sent < 7 && (ok || n != 0) {
				t.Errorf("from %d on %d were sent, one more is acknowledged", va, sent)
			}
		}
	}
}

func TestAWindowHasAsManyAsItShouldNoneTwice(t *testing.T) {
	for a := range 256 {
		for n := range 8 {
			w := seq.Window(uint8(a), n)
			if len(w) != n {
				t.Fatalf("Window(%d, %d) has %d", a, n, len(w))
			}
			slices.Sort(w)
			if len(slices.Compact(w)) != n {
				t.Fatalf("Window(%d, %d) has one twice", a, n)
			}
		}
	}
}

// Rules that hold everywhere

func TestAnswersHangOnArgumentsAlone(t *testing.T) {
	for range 3 {
		for a := range uint8(8) {
			seq.Window(a, 7)
			seq.Acks(a, 3, 9)
			if seq.Add(a, 1) != next(a) || seq.Way(a, next(a)) != 1 || !seq.In(a, 1, a) {
				t.Fatalf("another answer of %d", a)
			}
		}
	}
}
