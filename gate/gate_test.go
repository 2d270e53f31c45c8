package gate_test

import (
	"slices"
	"testing"

	"partyline/gate"
)

// both is a gate, and the plain one beside it, to which the same is done.
type both struct {
	t     *testing.T
	real  *gate.Gate
	plain *plainGate
}

func newBoth(t *testing.T) *both {
	t.Helper()
	g := gate.New()
	if g == nil {
		t.Fatal("New: nil")
	}
	return &both{t, g, &plainGate{}}
}

func (b *both) all(open bool) {
	b.t.Helper()
	b.real.All(open)
	b.plain.all(open)
	b.like()
}

func (b *both) stop(stopped bool, dlcis ...int) {
	b.t.Helper()
	for _, d := range dlcis {
		b.real.Stop(uint8(d), stopped)
		b.plain.stop(d, stopped)
		b.like()
	}
}

// like holds all that can be asked against the plain one, of every number, twice: asking changes nothing.
func (b *both) like() {
	b.t.Helper()
	stopped := b.plain.stopped()
	for range 2 {
		has(b.t, b.real, b.plain.open(), stopped...)
	}
	for _, d := range edges {
		if got, want := b.real.May(uint8(d)), b.plain.may(d); got != want {
			b.t.Fatalf("May(%d): %v, not %v (stopped are %v)", d, got, want, stopped)
		}
	}
}

// has holds a gate against what is written in the test: open or not, and which channels are stopped.
func has(t *testing.T, g *gate.Gate, open bool, stopped ...uint8) {
	t.Helper()
	if g.Open() != open {
		t.Fatalf("Open: %v, not %v", g.Open(), open)
	}
	if got := g.Stopped(); !slices.Equal(got, stopped) {
		t.Fatalf("Stopped: %v, not %v", got, stopped)
	}
	for d := range 256 {
		may := d == 0 || d <= 63 && open && !slices.Contains(stopped, uint8(d))
		if got := g.May(uint8(d)); got != may {
			t.Fatalf("May(%d): %v, not %v (open %v, stopped are %v)", d, got, may, open, stopped)
		}
	}
}

// from are the numbers from one to another one, both among them.
func from(first, last int) []int {
	var all []int
	for n := first; n <= last; n++ {
		all = append(all, n)
	}
	return all
}

// without are all numbers but one.
func without(all []int, one int) []int {
	return slices.DeleteFunc(slices.Clone(all), func(n int) bool { return n == one })
}

func octets(all []int) []uint8 {
	var out []uint8
	for _, n := range all {
		out = append(out, uint8(n))
	}
	return out
}

func TestExamples(t *testing.T) {
	g := gate.New()
	g.Stop(5, true)
	if g.May(5) || !g.May(6) || !g.May(0) {
		t.Errorf("stopped: %v, %v, %v", g.May(5), g.May(6), g.May(0))
	}
	g.All(false)
	if g.May(6) || !g.May(0) || g.Open() {
		t.Errorf("closed: %v, %v, %v", g.May(6), g.May(0), g.Open())
	}
	g.All(true)
	if !g.May(6) {
		t.Error("opened: 6 may not")
	}
}

func TestFirst(t *testing.T) {
	g := gate.New()
	has(t, g, true)
	for _, d := range []uint8{0, 1, 2, 31, 32, 33, 62, 63} {
		if !g.May(d) {
			t.Errorf("May(%d): false", d)
		}
	}
	for _, d := range []uint8{64, 65, 127, 128, 255} {
		if g.May(d) {
			t.Errorf("May(%d): true", d)
		}
	}
	newBoth(t).like()
}

// P21.1

func TestAll(t *testing.T) {
	for _, stopped := range [][]int{nil, {1}, {63}, {5, 40}, from(1, 63)} {
		b := newBoth(t)
		b.stop(true, stopped...)
		for _, open := range []bool{true, false, false, true, true, false, true} {
			b.all(open)
			has(t, b.real, open, octets(stopped)...)
		}
	}
}

// A gate that is closed ahead of all else opens to all.
func TestClosedAtOnce(t *testing.T) {
	g := gate.New()
	g.All(false)
	has(t, g, false)
	g.All(true)
	has(t, g, true)
}

// Every number, alone, at a gate that is open and one that is closed: stopped twice, and let go twice.
func TestStop(t *testing.T) {
	for d := range 256 {
		for _, open := range []bool{true, false} {
			var want []uint8
			if d >= 1 && d <= 63 {
				want = []uint8{uint8(d)}
			}
			b := newBoth(t)
			b.all(open)
			for _, stopped := range []bool{false, true, true, false, false, true} {
				b.stop(stopped, d)
				if stopped {
					has(t, b.real, open, want...)
				} else {
					has(t, b.real, open)
				}
			}
			b.all(!open)
			has(t, b.real, !open, want...)
		}
	}
}

// What is no channel, and 0, changes nothing of a gate of which some, none or all are stopped.
func TestStopOfWhatIsNone(t *testing.T) {
	none := append([]int{0}, from(64, 255)...)
	for _, stopped := range [][]int{nil, {1}, {32}, {63}, {1, 5, 31, 33, 62}, from(1, 63), without(from(1, 63), 5)} {
		for _, open := range []bool{true, false} {
			b := newBoth(t)
			b.all(open)
			b.stop(true, stopped...)
			for _, d := range none {
				b.stop(true, d)
				b.stop(false, d)
			}
			has(t, b.real, open, octets(stopped)...)
		}
	}
}

// A number less 64, 128 or 192 is another one.
func TestStopOfGreaterNumbers(t *testing.T) {
	for d := 1; d <= 63; d++ {
		free, held := gate.New(), gate.New()
		held.Stop(uint8(d), true)
		for _, more := range []int{64, 128, 192} {
			free.Stop(uint8(d+more), true)
			held.Stop(uint8(d+more), false)
		}
		has(t, free, true)
		has(t, held, true, uint8(d))
	}
}

// P21.2

// Each channel stopped alone, and all but one.
func TestMay(t *testing.T) {
	every := from(1, 63)
	for _, d := range every {
		alone, rest := newBoth(t), newBoth(t)
		alone.stop(true, d)
		for _, other := range without(every, d) {
			rest.real.Stop(uint8(other), true)
			rest.plain.stop(other, true)
		}
		for _, open := range []bool{true, false, true} {
			alone.all(open)
			rest.all(open)
			has(t, alone.real, open, uint8(d))
			has(t, rest.real, open, octets(without(every, d))...)
		}
	}
}

func TestMayOfAll(t *testing.T) {
	b := newBoth(t)
	b.stop(true, from(0, 255)...)
	has(t, b.real, true, octets(from(1, 63))...)
	b.all(false)
	has(t, b.real, false, octets(from(1, 63))...)
	b.stop(false, from(0, 255)...)
	has(t, b.real, false)
	b.all(true)
	has(t, b.real, true)
}

// P21.3

func TestStopped(t *testing.T) {
	for _, order := range [][]int{{5}, {1}, {63}, {63, 1}, {1, 63}, {33, 32, 31}, {9, 9, 8, 9, 8}, {62, 2, 40, 17, 63, 1}} {
		rising := slices.Compact(slices.Sorted(slices.Values(order)))
		want := octets(rising)
		b := newBoth(t)
		b.stop(true, order...)
		has(t, b.real, true, want...)
		b.all(false)
		has(t, b.real, false, want...)
		b.stop(false, order[0])
		has(t, b.real, false, octets(without(rising, order[0]))...)
	}
}

// What was answered once stays as it was, and may be written into.
func TestStoppedIsNewMemory(t *testing.T) {
	g := gate.New()
	for n := 1; n <= 63; n++ {
		before, again := g.Stopped(), g.Stopped()
		whole := before[:cap(before)]
		for i := range whole {
			whole[i] = 0xFF
		}
		if !slices.Equal(again, octets(from(1, n-1))) {
			t.Fatalf("what was answered is shared: %v", again)
		}
		has(t, g, true, octets(from(1, n-1))...)
		g.Stop(uint8(n), true)
		if !slices.Equal(again, octets(from(1, n-1))) {
			t.Fatalf("what was answered is another, when more is stopped: %v", again)
		}
	}
	all := g.Stopped()
	g.Stop(1, false)
	g.All(false)
	if !slices.Equal(all, octets(from(1, 63))) {
		t.Fatalf("what was answered is another, when one is let go: %v", all)
	}
	_ = append(all[:0], 7, 7, 7)
	has(t, g, false, octets(from(2, 63))...)
}

// P21.4

// Each channel beside each other one: what is done to the one leaves the other one as it was.
func TestApart(t *testing.T) {
	for one := 1; one <= 63; one++ {
		for two := 1; two <= 63; two++ {
			if one == two {
				continue
			}
			for _, held := range []bool{true, false} {
				g := gate.New()
				g.Stop(uint8(two), held)
				for _, stopped := range []bool{true, false, false, true, false} {
					g.Stop(uint8(one), stopped)
					if g.May(uint8(two)) == held {
						t.Fatalf("Stop(%d, %v): May(%d) is %v", one, stopped, two, !held)
					}
				}
			}
		}
	}
}

// Whom it let through ahead it lets through when it was closed and opened, whatever was stopped.
func TestClosedAndOpened(t *testing.T) {
	d := dice(4)
	for n := range 300 {
		g := gate.New()
		for c := 1; c <= 63; c++ {
			g.Stop(uint8(c), d.roll(4) <= n%5)
		}
		var ahead [256]bool
		for c := range ahead {
			ahead[c] = g.May(uint8(c))
		}
		stopped := g.Stopped()
		for range 1 + n%3 {
			g.All(false)
		}
		has(t, g, false, stopped...)
		for range 1 + n%2 {
			g.All(true)
		}
		for c := range ahead {
			if g.May(uint8(c)) != ahead[c] {
				t.Fatalf("May(%d): %v, not %v as ahead", c, !ahead[c], ahead[c])
			}
		}
		has(t, g, true, stopped...)
	}
}

// What is stopped and let go while the gate is closed holds when it opens.
func TestStopWhileClosed(t *testing.T) {
	b := newBoth(t)
	b.stop(true, 7, 63)
	b.all(false)
	b.stop(true, 1, 8, 33)
	b.stop(false, 63, 9, 8)
	b.stop(true, 0, 64, 65)
	has(t, b.real, false, 1, 7, 33)
	b.all(true)
	has(t, b.real, true, 1, 7, 33)
	b.all(false)
	b.stop(false, 1, 7, 33)
	b.all(true)
	has(t, b.real, true)
}

func TestManySideBySide(t *testing.T) {
	many := make([]*both, 64)
	for i := range many {
		many[i] = newBoth(t)
		many[i].stop(true, i)
		many[i].all(i%2 == 0)
	}
	for i, b := range many {
		b.like()
		b.stop(true, 63-i)
		b.stop(false, i)
		b.all(i%3 == 0)
	}
	for _, b := range many {
		b.like()
	}
}

func TestCallsAsTheyFall(t *testing.T) {
	for seed := range dice(60) {
		d := seed
		b := newBoth(t)
		for range 120 {
			switch d.roll(8) {
			case 0:
				b.all(d.roll(2) == 0)
			case 1:
				b.stop(d.roll(2) == 0, edges[d.roll(len(edges))])
			case 2:
				b.stop(d.roll(2) == 0, d.roll(256))
			default:
				b.stop(d.roll(3) != 0, d.roll(64))
			}
		}
	}
}

func TestNil(t *testing.T) {
	var g *gate.Gate
	for _, d := range edges {
		for _, is := range []bool{true, false} {
			g.All(is)
			g.Stop(uint8(d), is)
			if g.Open() || g.May(uint8(d)) || len(g.Stopped()) != 0 {
				t.Fatalf("nil, of %d: Open %v, May %v, Stopped %v", d, g.Open(), g.May(uint8(d)), g.Stopped())
			}
		}
	}
	has(t, gate.New(), true)
}

// What New did not make is like what it makes.
func TestNotOfNew(t *testing.T) {
	g := &gate.Gate{}
	has(t, g, true)
	g.Stop(63, true)
	g.Stop(0, true)
	g.All(false)
	has(t, g, false, 63)
	g.All(true)
	has(t, g, true, 63)
}
