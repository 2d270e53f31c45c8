package prio_test

import (
	"testing"

	"partyline/api"
	"partyline/prio"
)

// both is a Prio, and the plain one beside it, to which the same is done.
type both struct {
	t     *testing.T
	real  *prio.Prio
	plain *plainPrio
}

func newBoth(t *testing.T) *both {
	t.Helper()
	p := prio.New()
	if p == nil {
		t.Fatal("New: nil")
	}
	return &both{t, p, newPlain()}
}

func (b *both) setClass(dlci, class int) {
	b.t.Helper()
	errno(b.t, "SetClass", b.real.SetClass(uint8(dlci), uint8(class)), b.plain.setClass(dlci, class), dlci, class)
}

func (b *both) setReady(ready bool, all ...int) {
	b.t.Helper()
	for _, d := range all {
		errno(b.t, "SetReady", b.real.SetReady(uint8(d), ready), b.plain.setReady(d, ready), d, 0)
	}
}

func (b *both) take(dlci int) {
	b.t.Helper()
	if got, want := b.real.Take(uint8(dlci)), b.plain.take(dlci); got != want {
		b.t.Fatalf("Take(%d): %v, not %v", dlci, got, want)
	}
}

func (b *both) pick() {
	b.t.Helper()
	d, ok := b.plain.pick()
	picked(b.t, b.real, d, ok)
}

// picks holds rows of picks against what is written in the test, and both against each other.
func (b *both) picks(want ...int) {
	b.t.Helper()
	for i, w := range want {
		if d, ok := b.plain.pick(); !ok || d != w {
			b.t.Fatalf("the test's own pick %d: %d, %v, not %d", i, d, ok, w)
		}
		picked(b.t, b.real, w, true)
	}
}

// nobody holds that none may.
func (b *both) nobody() {
	b.t.Helper()
	for range 2 {
		b.pick()
		picked(b.t, b.real, 0, false)
	}
}

// like holds all that changes nothing against the plain one, of every number.
func (b *both) like() {
	b.t.Helper()
	may := map[int]bool{}
	for _, d := range b.plain.may() {
		may[d] = true
	}
	for d := range 256 {
		class, ready := 0, false
		if d <= 63 {
			class, ready = b.plain.class[d], b.plain.ready[d]
		}
		has(b.t, b.real, d, class, ready, may[d])
	}
}

// ends makes each class ready in turn, and picks all of it twice: who took a turn last there is as in the plain one.
func (b *both) ends() {
	b.t.Helper()
	b.like()
	for d := range 64 {
		b.setReady(false, d)
	}
	b.nobody()
	for class := range 64 {
		for d := range 64 {
			b.setReady(b.plain.class[d] == class, d)
		}
		for range 3 {
			b.pick()
		}
	}
	b.like()
	// Nothing of what a channel was before is left in a class that it comes to.
	for d := range 64 {
		b.setReady(true, d)
	}
	for class := 63; class >= 0; class-- {
		for d := range 64 {
			b.setClass(d, class)
		}
		b.pick()
		b.pick()
	}
	b.like()
}

func errno(t *testing.T, name string, got, want api.Errno, dlci, other int) {
	t.Helper()
	if got != want {
		t.Fatalf("%s(%d, %d): %d, not %d", name, dlci, other, got, want)
	}
}

func picked(t *testing.T, p *prio.Prio, want int, wantOK bool) {
	t.Helper()
	if d, ok := p.Pick(); int(d) != want || ok != wantOK {
		t.Fatalf("Pick: %d, %v, not %d, %v", d, ok, want, wantOK)
	}
}

func has(t *testing.T, p *prio.Prio, dlci, class int, ready, may bool) {
	t.Helper()
	d := uint8(dlci)
	if int(p.Class(d)) != class || p.Ready(d) != ready || p.May(d) != may {
		t.Fatalf("of %d: Class %d, Ready %v, May %v, not %d, %v, %v", dlci, p.Class(d), p.Ready(d), p.May(d), class, ready, may)
	}
}

// upTo are the numbers from 0 on, below n.
func upTo(n int) []int {
	all := make([]int, n)
	for i := range all {
		all[i] = i
	}
	return all
}

// P20.1

func TestFirst(t *testing.T) {
	p := prio.New()
	for dlci, class := range map[int]int{
		0: 0, 1: 7, 2: 7, 6: 7, 7: 7, 8: 15, 9: 15, 14: 15, 15: 15, 16: 23, 23: 23, 24: 31, 31: 31, 32: 39, 39: 39, 40: 47, 47: 47,
		48: 55, 54: 55, 55: 55, 56: 61, 57: 61, 60: 61, 61: 61, 62: 61, 63: 61, 64: 0, 65: 0, 72: 0, 127: 0, 128: 0, 255: 0,
	} {
		has(t, p, dlci, class, false, false)
	}
	b := newBoth(t)
	b.like()
	b.nobody()
	b.ends()
}

// At first none took a turn: each class's round begins with the least number.
func TestFirstRounds(t *testing.T) {
	b := newBoth(t)
	for class := range 64 {
		b := newBoth(t)
		for d := range 64 {
			b.setClass(d, class)
		}
		b.setReady(true, upTo(64)...)
		b.picks(0, 1, 2, 3)
	}
	b.setReady(true, upTo(64)...)
	for _, r := range firstClasses {
		for d := range 64 {
			if firstClass(d) == r.class {
				b.picks(d)
			}
		}
		for d := range 64 {
			if firstClass(d) == r.class {
				b.setReady(false, d)
			}
		}
	}
	b.nobody()
}

func TestManySideBySide(t *testing.T) {
	many := make([]*both, 64)
	for i := range many {
		many[i] = newBoth(t)
		many[i].setReady(true, i)
		many[i].setClass(i, 63-i)
	}
	for i, b := range many {
		b.picks(i, i)
		b.like()
	}
	first, second := newBoth(t), newBoth(t)
	for _, b := range []*both{first, second} {
		b.setReady(true, 1, 2, 3)
	}
	first.picks(1, 2)
	second.picks(1)
	first.setReady(false, 3)
	first.setClass(2, 0)
	first.like()
	second.like()
	second.picks(2, 3)
	first.picks(2)
	first.ends()
	second.ends()
}

func TestNil(t *testing.T) {
	var p *prio.Prio
	for _, d := range edges {
		for _, class := range edges {
			errno(t, "nil's SetClass", p.SetClass(uint8(d), uint8(class)), api.ErrNil, d, class)
		}
		errno(t, "nil's SetReady", p.SetReady(uint8(d), true), api.ErrNil, d, 1)
		errno(t, "nil's SetReady", p.SetReady(uint8(d), false), api.ErrNil, d, 0)
		has(t, p, d, 0, false, false)
		if p.Take(uint8(d)) {
			t.Fatalf("nil's Take(%d): true", d)
		}
	}
	picked(t, p, 0, false)
}

// What New did not make ends each call as well; all its channels have one class.
func TestNotOfNew(t *testing.T) {
	p := &prio.Prio{}
	picked(t, p, 0, false)
	for _, d := range []uint8{63, 5, 0} {
		errno(t, "SetReady", p.SetReady(d, true), api.OK, int(d), 1)
	}
	for _, want := range []int{0, 5, 63, 0} {
		picked(t, p, want, true)
	}
	errno(t, "SetClass", p.SetClass(0, 1), api.OK, 0, 1)
	picked(t, p, 5, true)
	has(t, p, 0, 1, true, false)
}

// P20.2

func TestSetClass(t *testing.T) {
	for _, d := range edges {
		for _, class := range edges {
			b := newBoth(t)
			b.setReady(true, 1, 20, 63)
			b.setClass(d, class)
			b.like()
			b.setReady(true, d)
			b.like()
			b.pick()
			b.setClass(d, 63)
			b.setClass(d, class)
			b.like()
		}
	}
	p := prio.New()
	for d := range 256 {
		for class := range 256 {
			want := api.OK
			if d > 63 || class > 63 {
				want = api.ErrArg
			}
			before := p.Class(uint8(d))
			errno(t, "SetClass", p.SetClass(uint8(d), uint8(class)), want, d, class)
			if want == api.OK {
				before = uint8(class)
			}
			has(t, p, d, int(before), false, false)
		}
	}
}

func TestSetReady(t *testing.T) {
	for d := range 256 {
		b := newBoth(t)
		for _, ready := range []bool{false, true, true, false, false, true} {
			b.setReady(ready, d)
			b.like()
		}
		b.pick()
		b.setReady(true, d)
		b.pick()
		b.setReady(false, d)
		b.nobody()
		b.setReady(false, d)
		b.nobody()
		b.like()
	}
}

// A channel that is ready twice is unready at once.
func TestReadyTwice(t *testing.T) {
	b := newBoth(t)
	b.setReady(true, 5, 5, 6, 6)
	b.picks(5, 6, 5)
	b.setReady(false, 6)
	b.picks(5)
	b.setReady(true, 6)
	b.picks(6)
	b.setReady(false, 5, 5, 5)
	b.setReady(true, 5)
	b.picks(5, 6)
	b.ends()
}

// What was refused changes nothing: neither of another channel, nor of a turn.
func TestRefused(t *testing.T) {
	b := newBoth(t)
	b.setReady(true, 0, 1, 2, 62, 63)
	b.setClass(0, 5)
	b.setClass(62, 5)
	b.picks(0)
	for d := range 256 {
		for _, class := range edges {
			if d > 63 || class > 63 {
				b.setClass(d, class)
			}
		}
		if d > 63 {
			b.setReady(true, d)
			b.setReady(false, d)
			b.take(d)
		}
	}
	b.like()
	b.picks(62, 0)
	b.ends()
}

// A channel may, if none that is ready has a lesser class: of the same class several may, whatever a channel that is not ready has.
func TestMay(t *testing.T) {
	b := newBoth(t)
	b.setReady(true, 9, 15, 40, 63)
	has(t, b.real, 9, 15, true, true)
	has(t, b.real, 15, 15, true, true)
	has(t, b.real, 10, 15, false, false)
	has(t, b.real, 40, 47, true, false)
	b.setClass(63, 14)
	has(t, b.real, 9, 15, true, false)
	has(t, b.real, 15, 15, true, false)
	has(t, b.real, 63, 14, true, true)
	b.setReady(false, 63)
	has(t, b.real, 63, 14, false, false)
	has(t, b.real, 9, 15, true, true)
	b.setClass(40, 15)
	has(t, b.real, 40, 15, true, true)
	has(t, b.real, 9, 15, true, true)
	b.setReady(true, 0)
	has(t, b.real, 0, 0, true, true)
	has(t, b.real, 9, 15, true, false)
	b.setClass(0, 63)
	has(t, b.real, 0, 63, true, false)
	has(t, b.real, 9, 15, true, true)
	b.ends()
}

// Each channel against each other one, of classes that are the same, next to each other, and far apart.
func TestMayOfTwo(t *testing.T) {
	p := prio.New()
	for one := range 64 {
		for two := range 64 {
			if one == two {
				continue
			}
			p.SetReady(uint8(one), true)
			p.SetReady(uint8(two), true)
			for _, c := range [][2]int{{0, 0}, {0, 1}, {1, 0}, {0, 63}, {63, 0}, {31, 32}, {32, 31}, {62, 63}, {63, 62}, {63, 63}} {
				p.SetClass(uint8(one), uint8(c[0]))
				p.SetClass(uint8(two), uint8(c[1]))
				has(t, p, one, c[0], true, c[0] <= c[1])
				has(t, p, two, c[1], true, c[1] <= c[0])
			}
			p.SetReady(uint8(one), false)
			p.SetReady(uint8(two), false)
		}
	}
}

// P20.3

func TestTake(t *testing.T) {
	b := newBoth(t)
	b.setReady(true, 1, 3, 5, 7)
	for _, d := range []int{5, 5, 1, 7, 3} {
		b.take(d)
		if !b.real.May(uint8(d)) {
			t.Fatalf("%d may no more, when it took a turn", d)
		}
		b.pick()
		b.like()
	}
	b.take(7)
	b.picks(1, 3)
	b.take(1)
	b.picks(3)
	b.take(3)
	b.picks(5)
	b.take(1)
	b.take(5)
	b.picks(7)
	b.ends()
}

// Take of one that may not changes nothing: one that is not ready, one of a greater class, and one that is no channel.
func TestTakeOfWhatMayNot(t *testing.T) {
	for d := range 256 {
		b := newBoth(t)
		b.setReady(true, 1, 2, 3, 9, 10)
		b.setReady(false, 2)
		b.picks(1)
		if b.plain.mayOne(d) {
			continue
		}
		b.take(d)
		b.like()
		b.picks(3)
		b.setReady(false, 1, 3)
		b.picks(9, 10)
		b.setReady(true, 1, 2, 3)
		b.picks(1)
	}
	b := newBoth(t)
	for d := range 256 {
		b.take(d)
	}
	b.like()
	b.nobody()
	b.ends()
}

// A turn is of the class that a channel has then.
func TestTurnStaysInItsClass(t *testing.T) {
	b := newBoth(t)
	b.setReady(true, 1, 2, 3, 4)
	b.take(2)
	b.setClass(2, 40)
	b.picks(3)
	b.setClass(3, 40)
	b.picks(4, 1, 4)
	b.setReady(false, 1, 4)
	b.picks(2, 3)
	b.setClass(2, 7)
	b.setReady(true, 1, 4)
	b.picks(1, 2, 4)
	b.setReady(false, 1, 2, 4)
	b.picks(3)
	b.setClass(1, 40)
	b.setClass(4, 40)
	b.setReady(true, 1, 4)
	b.picks(4, 1, 3)
	b.ends()
}

// P20.4

// Of one class, each that took a turn last, or none, and each choice of those that are ready.
func TestNextOfAll(t *testing.T) {
	some := []int{0, 1, 7, 31, 32, 61, 62, 63}
	for last := -1; last < 64; last++ {
		for choice := range 1 << len(some) {
			b := newBoth(t)
			for d := range 64 {
				b.setClass(d, 20)
			}
			if last >= 0 {
				b.setReady(true, last)
				b.take(last)
				b.setReady(false, last)
			}
			for i, d := range some {
				b.setReady(choice>>i&1 == 1, d)
			}
			b.pick()
			b.pick()
			b.pick()
		}
	}
}

func TestAloneInItsClass(t *testing.T) {
	for d := range 64 {
		for _, class := range []int{0, 1, 31, 62, 63} {
			b := newBoth(t)
			b.setClass(d, class)
			b.setReady(true, d)
			b.picks(d, d, d)
			b.setReady(false, d)
			b.nobody()
			b.setReady(true, d)
			b.take(d)
			b.picks(d, d)
		}
	}
}

// Two of one class come one behind the other, whatever their numbers are, and whoever of them began.
func TestTwoOfOneClass(t *testing.T) {
	for one := range 64 {
		for two := one + 1; two < 64; two++ {
			b := newBoth(t)
			b.setClass(one, 63)
			b.setClass(two, 63)
			b.setReady(true, two)
			b.picks(two, two)
			b.setReady(true, one)
			b.picks(one, two, one, two, one)
			b.take(one)
			b.picks(two)
			b.take(one)
			b.take(two)
			b.picks(one)
			b.setReady(false, one)
			b.picks(two)
			b.setReady(false, two)
			b.nobody()
		}
	}
}

func TestAllOfOneClass(t *testing.T) {
	for _, class := range []int{0, 1, 7, 61, 62, 63} {
		b := newBoth(t)
		for d := range 64 {
			b.setClass(d, class)
		}
		b.setReady(true, upTo(64)...)
		for range 3 {
			b.picks(upTo(64)...)
		}
		b.take(62)
		b.picks(63, 0)
		b.take(63)
		b.picks(0, 1)
		b.setReady(false, 2, 3, 4)
		b.picks(5)
		b.setReady(true, 3)
		b.picks(6)
		b.setReady(false, upTo(63)...)
		b.picks(63, 63)
		b.setReady(true, 0)
		b.picks(0, 63, 0)
		b.ends()
	}
}

// Who took a turn last may be ready no more, or of another class: its number is what the round goes on from.
func TestLastOneGone(t *testing.T) {
	b := newBoth(t)
	b.setReady(true, 2, 4, 6)
	b.picks(2, 4)
	b.setReady(false, 4)
	b.picks(6)
	b.setReady(false, 6)
	b.picks(2)
	b.setReady(true, 4, 6)
	b.picks(4)
	b.setClass(4, 63)
	b.picks(6)
	b.setClass(6, 0)
	b.picks(6, 6)
	b.setReady(false, 6)
	b.picks(2, 2)
	b.setClass(4, 7)
	b.setClass(6, 7)
	b.setReady(true, 6)
	b.picks(4, 6)
	b.setClass(20, 7)
	b.setReady(true, 20)
	b.picks(20, 2)
	b.setReady(false, 2, 4)
	b.setReady(true, 1)
	b.picks(6, 20, 1, 6)
	b.ends()
}

// Turns in one class leave those of the others as they were.
func TestClassesApart(t *testing.T) {
	b := newBoth(t)
	b.setReady(true, 8, 9, 10)
	b.picks(8)
	b.setReady(true, 1, 2, 3)
	b.picks(1, 2)
	b.setReady(true, 0)
	b.picks(0, 0)
	b.setReady(false, 0)
	b.picks(3)
	b.setReady(false, 1, 2, 3)
	b.picks(9)
	b.setReady(true, 1, 2, 3)
	b.take(2)
	b.setReady(false, 1, 2, 3)
	b.picks(10)
	b.setReady(true, 1, 2, 3)
	b.picks(3)
	b.ends()
	// A turn in each class is remembered, not in some alone.
	b = newBoth(t)
	for class := range 64 {
		b.setReady(false, upTo(64)...)
		for d := range 64 {
			b.setClass(d, class)
		}
		b.setReady(true, class)
		b.take(class)
	}
	b.setReady(true, upTo(64)...)
	for class := range 64 {
		for d := range 64 {
			b.setClass(d, class)
		}
		b.picks((class + 1) % 64)
	}
}

func TestExamples(t *testing.T) {
	b := newBoth(t)
	has(t, b.real, 0, 0, false, false)
	has(t, b.real, 5, 7, false, false)
	has(t, b.real, 8, 15, false, false)
	has(t, b.real, 63, 61, false, false)
	b.setReady(true, 3, 5, 9)
	b.picks(3, 5, 3)
	has(t, b.real, 9, 15, true, false)
	b.setClass(5, 3)
	b.picks(5)
	b.setReady(false, 5)
	b.picks(3)
	b.ends()
}

// P20.5

// A channel that stays ready is picked at the latest when all others of its class were, whoever else of them is ready now and then.
func TestNobodyWaitsLong(t *testing.T) {
	for d := range 64 {
		for seed := range 20 {
			c := dice(64*seed + d)
			p := prio.New()
			for i := range uint8(64) {
				p.SetClass(i, 30)
				p.SetReady(i, c.roll(2) == 0)
			}
			for range c.roll(5) {
				p.Pick()
			}
			p.SetReady(uint8(d), true)
			waits(t, p, d, &c)
		}
	}
}

// waits picks till it is the channel, and holds that no other one was picked twice.
func waits(t *testing.T, p *prio.Prio, dlci int, c *dice) {
	t.Helper()
	seen := map[uint8]bool{}
	for {
		got, ok := p.Pick()
		if !ok {
			t.Fatalf("none may, though %d is ready", dlci)
		}
		if got == uint8(dlci) {
			return
		}
		if seen[got] {
			t.Fatalf("%d twice, and %d waits", got, dlci)
		}
		seen[got] = true
		for range c.roll(20) {
			if o := c.roll(64); o != dlci {
				p.SetReady(uint8(o), c.roll(2) == 0)
			}
		}
	}
}

// What is ready in a greater class changes no pick of a lesser one, nor does that it was, or what class it has there.
func TestGreaterClassesChangeNothing(t *testing.T) {
	for seed := range 200 {
		c := dice(seed)
		class := c.roll(63)
		one, two := prio.New(), prio.New()
		for d := range uint8(64) {
			k, ready := uint8(class), c.roll(2) == 0
			if d%2 == 1 {
				k, ready = 63, false
			}
			for _, p := range []*prio.Prio{one, two} {
				p.SetClass(d, k)
				p.SetReady(d, ready || d == 2)
			}
		}
		for range 60 {
			d := uint8(2*c.roll(32) + 1)
			two.SetClass(d, uint8(class+1+c.roll(63-class)))
			two.SetReady(d, c.roll(3) != 0)
			if two.Take(d) {
				t.Fatalf("%d, of a greater class, took a turn", d)
			}
			want, _ := one.Pick()
			picked(t, two, int(want), true)
		}
	}
}

// A lesser class becomes ready between two picks, and is unready again: the greater one goes on where it was.
func TestLesserClassBetween(t *testing.T) {
	for _, lesser := range []int{0, 1, 30, 47, 62} {
		b := newBoth(t)
		for _, d := range []int{40, 50, 60, 63} {
			b.setClass(d, 63)
			b.setReady(true, d)
		}
		b.setClass(7, lesser)
		b.setClass(55, lesser)
		b.picks(40, 50)
		b.setReady(true, 7)
		b.picks(7, 7)
		b.setReady(true, 55)
		b.picks(55, 7)
		b.setReady(false, 7)
		b.picks(55)
		b.setReady(false, 55)
		b.picks(60)
		b.setReady(true, 7)
		b.setReady(false, 7)
		b.picks(63, 40)
		b.setReady(true, 55, 7)
		b.picks(7)
		b.setReady(false, 7, 55)
		b.picks(50)
		b.ends()
	}
}

// Calls as they fall, held against the chapter's words told plainly.
func TestAsTheyFall(t *testing.T) {
	for seed := range 200 {
		c := dice(7919 * seed)
		b := newBoth(t)
		kinds := 1 + c.roll(6) // how many classes there are
		top := 1 + c.roll(64)  // and channels
		for range 200 {
			fall(b, &c, kinds, top)
		}
		b.ends()
	}
}

func fall(b *both, c *dice, kinds, top int) {
	b.t.Helper()
	d := c.roll(top)
	if c.roll(30) == 0 {
		d = edges[c.roll(len(edges))]
	}
	switch c.roll(12) {
	case 0:
		b.setClass(d, edges[c.roll(len(edges))])
	case 1, 2:
		b.setClass(d, c.roll(kinds))
	case 3, 4, 5:
		b.setReady(true, d)
	case 6, 7:
		b.setReady(false, d)
	case 8, 9:
		b.take(d)
	default:
		b.pick()
	}
	if c.roll(8) == 0 {
		b.like()
	}
}
