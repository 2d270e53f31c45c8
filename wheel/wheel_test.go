package wheel_test

import (
	"math"
	"slices"
	"testing"

	"partyline/api"
	"partyline/wheel"
)

// slotses are numbers of slots: the least and the greatest, powers of two and others, primes.
var slotses = []int{1, 2, 3, 4, 5, 7, 8, 13, 16, 64, 100, 127, 128, 251, 255, 256}

// wrong are ticks that no timer may be set to; some would be right, if less than all of their bits were read.
var wrong = []int{math.MinInt, math.MinInt + 1, -1<<32 + 5, math.MinInt32, -65536, -65535, -2, -1, 0, 65536, 65537, 65536 + 5, 1 << 20, math.MaxInt32, 1<<32 + 1, 1<<32 + 65535, math.MaxInt - 1, math.MaxInt}

// A plain wheel is one as the chapter's words say it: of each timer how many ticks are left, and 0 of one that is not set.
type plain [256]int

func (p *plain) set(id uint8, ticks int) api.Errno {
	if ticks < 1 || ticks > 65535 {
		return api.ErrArg
	}
	p[id] = ticks
	return api.OK
}

func (p *plain) stop(id uint8) bool {
	was := p[id] > 0
	p[id] = 0
	return was
}

func (p *plain) tick() (due []uint8) {
	for id := range p {
		if p[id] > 0 {
			p[id]--
			if p[id] == 0 {
				due = append(due, uint8(id))
			}
		}
	}
	return due
}

func (p *plain) count() (n int) {
	for _, left := range p {
		n += min(left, 1)
	}
	return n
}

// newWheel is a wheel of so many slots, which may be.
func newWheel(t *testing.T, slots int) *wheel.Wheel {
	t.Helper()
	w := wheel.New(slots)
	if w == nil {
		t.Fatalf("New(%d) is nil", slots)
	}
	return w
}

func set(t *testing.T, w *wheel.Wheel, id uint8, ticks int) {
	t.Helper()
	if e := w.Set(id, ticks); e != api.OK {
		t.Fatalf("Set(%d, %d) = %v", id, ticks, e)
	}
}

// tick asks for the timers that are told at one tick.
func tick(t *testing.T, w *wheel.Wheel, due ...uint8) {
	t.Helper()
	if l := w.Tick(); !slices.Equal(l, due) {
		t.Fatalf("told %v, not %v", l, due)
	}
}

// ticks asks that at so many ticks none is told.
func ticks(t *testing.T, w *wheel.Wheel, n int) {
	t.Helper()
	for i := range n {
		if l := w.Tick(); len(l) > 0 {
			t.Fatalf("told %v at tick %d of %d", l, i+1, n)
		}
	}
}

func left(t *testing.T, w *wheel.Wheel, id uint8, want int) {
	t.Helper()
	if n := w.Left(id); n != want {
		t.Fatalf("Left(%d) = %d, not %d", id, n, want)
	}
}

func stop(t *testing.T, w *wheel.Wheel, id uint8, want bool) {
	t.Helper()
	if was := w.Stop(id); was != want {
		t.Fatalf("Stop(%d) = %v, not %v", id, was, want)
	}
}

func count(t *testing.T, w *wheel.Wheel, want int) {
	t.Helper()
	if n := w.Count(); n != want {
		t.Fatalf("Count() = %d, not %d", n, want)
	}
}

// same holds all that a wheel can be asked without a change against a plain one.
func same(t *testing.T, w *wheel.Wheel, p *plain) {
	t.Helper()
	for id, want := range p {
		left(t, w, uint8(id), want)
	}
	count(t, w, p.count())
}

// dice are numbers that follow no plain rule.
type dice uint32

func (d *dice) roll(n int) int {
	*d = *d*1664525 + 1013904223
	return int(*d>>8) % n
}

// onAll runs a test on wheels of all those slots, and on one that New did not make.
func onAll(t *testing.T, run func(t *testing.T, w *wheel.Wheel)) {
	t.Helper()
	for _, slots := range slotses {
		t.Logf("%d slots", slots)
		run(t, newWheel(t, slots))
	}
	t.Log("not of New")
	run(t, &wheel.Wheel{})
}

// P11.1

func TestNew(t *testing.T) {
	for slots := 1; slots <= 256; slots++ {
		w := newWheel(t, slots)
		same(t, w, &plain{})
		for id := range 256 {
			stop(t, w, uint8(id), false)
		}
		ticks(t, w, 2*slots+1)
		same(t, w, &plain{})
	}
	for _, slots := range []int{math.MinInt, math.MinInt + 1, -1<<32 + 4, math.MinInt32, -257, -256, -255, -2, -1, 0, 257, 258, 511, 512, 65535, 65536, 65536 + 4, math.MaxInt32, 1 << 32, 1<<32 + 1, 1<<32 + 256, math.MaxInt - 1, math.MaxInt} {
		if wheel.New(slots) != nil {
			t.Errorf("New(%d) is a wheel", slots)
		}
	}
}

func TestNilWheel(t *testing.T) {
	for _, w := range []*wheel.Wheel{nil, wheel.New(0), wheel.New(257), wheel.New(-1)} {
		for id := range 256 {
			for _, n := range append([]int{1, 2, 65535}, wrong...) {
				if e := w.Set(uint8(id), n); e != api.ErrNil {
					t.Errorf("Set(%d, %d) = %v", id, n, e)
				}
			}
			stop(t, w, uint8(id), false)
			left(t, w, uint8(id), 0)
		}
		ticks(t, w, 3)
		count(t, w, 0)
	}
}

func TestWheelsAreApart(t *testing.T) {
	a, b := newWheel(t, 4), newWheel(t, 4)
	set(t, a, 7, 2)
	set(t, b, 7, 3)
	set(t, b, 8, 1)
	tick(t, a)
	left(t, b, 7, 3)
	tick(t, a, 7)
	count(t, a, 0)
	count(t, b, 2)
	stop(t, a, 8, false)
	tick(t, b, 8)
	left(t, b, 7, 2)
}

// A wheel that New did not make, in any way, is one all the same.
func TestWheelNotOfNew(t *testing.T) {
	var w wheel.Wheel
	same(t, &w, &plain{})
	stop(t, &w, 7, false)
	ticks(t, &w, 3)
	if e := w.Set(7, 0); e != api.ErrArg {
		t.Errorf("Set(7, 0) = %v", e)
	}
	set(t, &w, 7, 2)
	set(t, &w, 3, 300)
	tick(t, &w)
	tick(t, &w, 7)
	left(t, &w, 3, 298)
}

// P11.2

func TestSetOfAllTicks(t *testing.T) {
	for _, slots := range slotses {
		w := newWheel(t, slots)
		ticks(t, w, slots/2)
		for n := 1; n <= 65535; n++ {
			set(t, w, uint8(n), n)
			left(t, w, uint8(n), n)
		}
		count(t, w, 256)
	}
}

func TestSetWrong(t *testing.T) {
	onAll(t, func(t *testing.T, w *wheel.Wheel) {
		for _, id := range []uint8{0, 1, 7, 128, 255} {
			for _, n := range wrong {
				if e := w.Set(id, n); e != api.ErrArg {
					t.Errorf("Set(%d, %d) = %v", id, n, e)
				}
			}
			left(t, w, id, 0)
			stop(t, w, id, false)
		}
		count(t, w, 0)
	})
}

// An error has changed nothing, of a timer that is set neither.
func TestSetWrongChangesNothing(t *testing.T) {
	onAll(t, func(t *testing.T, w *wheel.Wheel) {
		var p plain
		for _, id := range []uint8{0, 7, 255} {
			set(t, w, id, int(id)+2)
			p.set(id, int(id)+2)
		}
		for range 300 {
			for _, n := range wrong {
				w.Set(7, n)
			}
			same(t, w, &p)
			tick(t, w, p.tick()...)
		}
	})
}

func TestSetAnew(t *testing.T) {
	onAll(t, func(t *testing.T, w *wheel.Wheel) {
		for _, id := range []uint8{0, 7, 255} {
			for _, c := range []struct{ first, gone, then int }{
				{5, 0, 9}, {5, 0, 5}, {5, 0, 1}, {5, 2, 9}, {5, 2, 3}, {5, 2, 1}, {5, 4, 5}, {5, 4, 1},
				{9, 0, 5}, {300, 100, 200}, {300, 100, 300}, {300, 299, 700}, {700, 1, 2}, {4, 0, 8}, {8, 0, 4}, {256, 0, 512}, {512, 0, 256},
			} {
				set(t, w, id, c.first)
				ticks(t, w, c.gone)
				set(t, w, id, c.then)
				left(t, w, id, c.then)
				count(t, w, 1)
				ticks(t, w, c.then-1)
				left(t, w, id, 1)
				tick(t, w, id)
				left(t, w, id, 0)
				count(t, w, 0)
				ticks(t, w, c.first+1)
			}
		}
	})
}

// Once more than there is room for it, and the last one counts.
func TestSetAgainAndAgain(t *testing.T) {
	onAll(t, func(t *testing.T, w *wheel.Wheel) {
		for n := 1; n <= 1000; n++ {
			set(t, w, 9, n)
			count(t, w, 1)
		}
		set(t, w, 9, 3)
		tick(t, w)
		tick(t, w)
		tick(t, w, 9)
		ticks(t, w, 1001)
	})
}

// P11.3

func TestStop(t *testing.T) {
	onAll(t, func(t *testing.T, w *wheel.Wheel) {
		for _, id := range []uint8{0, 1, 7, 254, 255} {
			for _, n := range []int{1, 2, 4, 5, 255, 256, 257, 600} {
				stop(t, w, id, false)
				set(t, w, id, n)
				ticks(t, w, n-1)
				stop(t, w, id, true)
				stop(t, w, id, false)
				left(t, w, id, 0)
				count(t, w, 0)
				ticks(t, w, 2)

				set(t, w, id, n)
				stop(t, w, id, true)
				set(t, w, id, 2)
				left(t, w, id, 2)
				tick(t, w)
				tick(t, w, id)
				stop(t, w, id, false)
				ticks(t, w, n)
			}
		}
	})
}

// The others stay as they are, of the same slot and of the same tick.
func TestStopAmongOthers(t *testing.T) {
	for _, slots := range slotses {
		w, p := newWheel(t, slots), &plain{}
		for id := range 256 {
			n := 1 + id%3*slots
			set(t, w, uint8(id), n)
			p.set(uint8(id), n)
		}
		for id := 0; id < 256; id += 5 {
			stop(t, w, uint8(id), p.stop(uint8(id)))
		}
		same(t, w, p)
		for range 2*slots + 2 {
			tick(t, w, p.tick()...)
		}
		same(t, w, &plain{})
	}
}

func TestLeftGoesDown(t *testing.T) {
	onAll(t, func(t *testing.T, w *wheel.Wheel) {
		for _, n := range []int{1, 2, 3, 255, 256, 257, 1025} {
			set(t, w, 0, n)
			set(t, w, 255, n+1)
			for gone := range n {
				left(t, w, 0, n-gone)
				left(t, w, 255, n-gone+1)
				left(t, w, 1, 0)
				count(t, w, 2)
				w.Tick()
			}
			left(t, w, 0, 0)
			left(t, w, 255, 1)
			count(t, w, 1)
			tick(t, w, 255)
			count(t, w, 0)
		}
	})
}

func TestCount(t *testing.T) {
	onAll(t, func(t *testing.T, w *wheel.Wheel) {
		for id := range 256 {
			set(t, w, uint8(id), 1+id%4)
			count(t, w, id+1)
			set(t, w, uint8(id), 2+id%4)
			count(t, w, id+1)
		}
		for id := range 128 {
			w.Stop(uint8(id))
			w.Stop(uint8(id))
			count(t, w, 255-id)
		}
		w.Tick()
		count(t, w, 128)
		w.Tick()
		count(t, w, 96)
	})
}

// P11.4

// Ticks that are fewer than, as many as, one more than, and many times the slots; from each place of the hand.
func TestTickBySlots(t *testing.T) {
	for _, slots := range slotses {
		w := newWheel(t, slots)
		for _, n := range []int{1, slots - 1, slots, slots + 1, 2*slots - 1, 2 * slots, 2*slots + 1, 7 * slots, 7*slots + 1} {
			if n < 1 {
				continue
			}
			for range min(slots, 9) {
				set(t, w, 7, n)
				ticks(t, w, n-1)
				left(t, w, 7, 1)
				tick(t, w, 7)
				left(t, w, 7, 0)
				ticks(t, w, 1)
			}
		}
	}
}

func TestMostTicks(t *testing.T) {
	onAll(t, func(t *testing.T, w *wheel.Wheel) {
		ticks(t, w, 3)
		set(t, w, 0, 65535)
		set(t, w, 255, 65534)
		ticks(t, w, 65533)
		tick(t, w, 255)
		left(t, w, 0, 1)
		tick(t, w, 0)
		ticks(t, w, 300)
	})
}

// All lie on one slot; some are due at this round, some at a later one.
func TestTickOfOneSlot(t *testing.T) {
	for _, slots := range slotses {
		w := newWheel(t, slots)
		for i, id := range []uint8{200, 3, 255, 0, 17, 100, 4, 99} {
			set(t, w, id, 1+i%3*slots)
		}
		tick(t, w, 0, 4, 200)
		ticks(t, w, slots-1)
		set(t, w, 5, 1)
		set(t, w, 4, 1+slots)
		tick(t, w, 3, 5, 17, 99)
		ticks(t, w, slots-1)
		tick(t, w, 4, 100, 255)
		ticks(t, w, 3*slots)
	}
}

// All timers at one tick are told rising, whatever the order in which they were set, and to however many ticks at first.
func TestTickTellsRising(t *testing.T) {
	var rising []uint8
	for id := range 256 {
		rising = append(rising, uint8(id))
	}
	for _, slots := range slotses {
		for _, step := range []int{1, 255, 3, 101, 129} {
			for _, n := range []int{1, slots, slots + 1, 3*slots + 2} {
				w := newWheel(t, slots)
				for i := range 256 {
					set(t, w, uint8(i*step), n+i)
				}
				for i := range 256 {
					set(t, w, uint8((255-i)*step), n)
				}
				ticks(t, w, n-1)
				tick(t, w, rising...)
				count(t, w, 0)
			}
			w := newWheel(t, slots)
			for i := range 256 {
				// The first ones come to the same tick from further away.
				set(t, w, uint8((255-i)*step), 256-i)
				if i < 255 {
					ticks(t, w, 1)
				}
			}
			tick(t, w, rising...)
		}
	}
}

func TestTickOfNone(t *testing.T) {
	onAll(t, func(t *testing.T, w *wheel.Wheel) {
		ticks(t, w, 5)
		set(t, w, 1, 1)
		set(t, w, 2, 4)
		tick(t, w, 1)
		ticks(t, w, 2)
		tick(t, w, 2)
		ticks(t, w, 600)
		set(t, w, 1, 2)
		ticks(t, w, 1)
		tick(t, w, 1)
	})
}

// P11.5

func TestAnswersAreNewMemory(t *testing.T) {
	for _, slots := range slotses {
		w, p := newWheel(t, slots), &plain{}
		var told, kept [][]uint8
		for round := range 40 {
			for id := round % 3; id < 256; id += 3 {
				n := 1 + (id+round)%5
				set(t, w, uint8(id), n)
				p.set(uint8(id), n)
			}
			due := p.tick()
			l := w.Tick()
			if !slices.Equal(l, due) {
				t.Fatalf("%d slots: told %v, not %v", slots, l, due)
			}
			if round%2 == 0 {
				told, kept = append(told, l), append(kept, due)
			} else {
				for i := range l {
					l[i] ^= 0xFF
				}
				// What lies behind the list is the caller's as well.
				l = l[:cap(l)]
				for i := range l {
					l[i] = 7
				}
			}
			same(t, w, p)
		}
		for i := range told {
			if !slices.Equal(told[i], kept[i]) {
				t.Fatalf("%d slots: an answer became %v, from %v", slots, told[i], kept[i])
			}
		}
	}
}

// P11.6

// A timer is due at the tick to whose number it was set, from each place of the hand, and at no other one.
func TestDueOnce(t *testing.T) {
	for _, slots := range []int{1, 2, 3, 4, 7, 255, 256} {
		for before := range 2*slots + 1 {
			w := newWheel(t, slots)
			// Another one is set all the time, so that the hand goes on.
			set(t, w, 100, 60000)
			ticks(t, w, before)
			for i, n := range []int{1, 2, 3, 4, 5, 8, 255, 256, 257, 600} {
				set(t, w, uint8(i), n)
			}
			at := 0
			for i, n := range []int{1, 2, 3, 4, 5, 8, 255, 256, 257, 600} {
				ticks(t, w, n-at-1)
				tick(t, w, uint8(i))
				at = n
			}
			left(t, w, 100, 60000-before-at)
		}
	}
}

// A timer that Tick told may be set again at once, to any number.
func TestSetFromTick(t *testing.T) {
	onAll(t, func(t *testing.T, w *wheel.Wheel) {
		set(t, w, 3, 1)
		set(t, w, 4, 1)
		for _, n := range []int{1, 2, 3, 4, 5, 255, 256, 257} {
			l := w.Tick()
			if !slices.Equal(l, []uint8{3, 4}) {
				t.Fatalf("told %v", l)
			}
			for _, id := range l {
				set(t, w, id, n)
			}
			ticks(t, w, n-1)
		}
		tick(t, w, 3, 4)
	})
}

// amount is a number of ticks: mostly small ones, some by the slots, some great, some that may not be.
func (d *dice) amount(slots int) int {
	switch d.roll(8) {
	case 0:
		return 1 + d.roll(65535)
	case 1:
		return wrong[d.roll(len(wrong))]
	case 2:
		return slots*(1+d.roll(4)) + d.roll(3) - 1
	}
	return 1 + d.roll(12)
}

// The same calls, as they fall, on wheels of all slots: all tell what a plain one tells.
func TestAllSlotsTheSame(t *testing.T) {
	for seed := range 20 {
		d, p := dice(seed), &plain{}
		var wheels []*wheel.Wheel
		for _, slots := range slotses {
			wheels = append(wheels, newWheel(t, slots))
		}
		wheels = append(wheels, &wheel.Wheel{})
		few := 1 + d.roll(256)
		for range 1500 {
			id, n, what := uint8(d.roll(few)), d.amount(slotses[d.roll(len(slotses))]), d.roll(10)
			e, was, due := api.OK, false, []uint8(nil)
			switch {
			case what < 4:
				e = p.set(id, n)
			case what < 5:
				was = p.stop(id)
			default:
				due = p.tick()
			}
			for _, w := range wheels {
				switch {
				case what < 4:
					if got := w.Set(id, n); got != e {
						t.Fatalf("seed %d: Set(%d, %d) = %v, not %v", seed, id, n, got, e)
					}
				case what < 5:
					stop(t, w, id, was)
				default:
					tick(t, w, due...)
				}
				left(t, w, id, p[id])
				count(t, w, p.count())
			}
		}
		for _, w := range wheels {
			same(t, w, p)
		}
	}
}

// The chapter's examples, each on a wheel of its own.
func TestExamples(t *testing.T) {
	w := newWheel(t, 4)
	set(t, w, 7, 2)
	tick(t, w)
	left(t, w, 7, 1)
	tick(t, w, 7)
	left(t, w, 7, 0)

	w = newWheel(t, 4)
	set(t, w, 3, 9)
	set(t, w, 3, 1)
	tick(t, w, 3)

	w = newWheel(t, 4)
	if e := w.Set(1, 0); e != api.ErrArg {
		t.Errorf("Set(1, 0) = %v", e)
	}
	stop(t, w, 1, false)
}
