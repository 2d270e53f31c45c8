package ctl_test

import (
	"testing"

	"partyline/ctl"
	"partyline/msgs"
)

// P22.5

// What was not said yet has no ticks that are left, however many come.
func TestTickOfWhatWasNotSaid(t *testing.T) {
	for _, n2 := range []int{0, 1, 255} {
		c := ctl.New(own, 1, n2)
		sameFacts(t, "Tick", c.Tick())
		asked(t, c, some()...)
		for range 600 {
			sameFacts(t, "Tick", c.Tick())
		}
		waits(t, "Tick", c, 0, 6)
		saysAll(t, c, some()...)
	}
}

// What is to be said again has none either, till it was said again, and keeps its tries.
func TestTickOfWhatIsToBeSaidAgain(t *testing.T) {
	c := said(t, 2, 2, bare(msgs.CLD))
	for range 2 {
		for range 50 {
			sameFacts(t, "Tick", c.Tick())
		}
		waits(t, "Tick", c, 0, 1)
		saysAll(t, c, bare(msgs.CLD))
	}
	sameFacts(t, "Tick", c.Tick())
	sameFacts(t, "Tick", c.Tick(), fact(ctl.Lost, bare(msgs.CLD)))
	waits(t, "Tick", c, 0, 0)
}

// Answers wait without ticks.
func TestTickOfAnswers(t *testing.T) {
	c := ctl.New(own, 1, 0)
	c.Hear(says(bare(msgs.CLD)) + says(test("x")))
	for range 600 {
		sameFacts(t, "Tick", c.Tick())
	}
	saysAll(t, c, asResponse(bare(msgs.CLD)), asResponse(test("x")))
}

// All of some, said one behind the other: with T2 and N2 at their edges each is said N2 and 1 times, T2 ticks apart.
func TestTickTillAllAreLost(t *testing.T) {
	for _, r := range []struct{ t2, n2 int }{{1, 0}, {1, 1}, {1, 255}, {2, 0}, {3, 2}, {255, 0}, {255, 1}, {255, 255}} {
		c := said(t, r.t2, r.n2, every()...)
		for range r.n2 {
			for range r.t2 {
				if c.Has() {
					t.Fatalf("T2 %d, N2 %d: something is to be said ahead of its time", r.t2, r.n2)
				}
				sameFacts(t, "Tick", c.Tick())
			}
			saysAll(t, c, every()...)
		}
		for range r.t2 - 1 {
			sameFacts(t, "Tick", c.Tick())
		}
		waits(t, "Tick", c, 0, 131)
		var want []ctl.Fact
		for _, m := range every() {
			want = append(want, fact(ctl.Lost, m))
		}
		sameFacts(t, "Tick", c.Tick(), want...)
		waits(t, "Tick", c, 0, 0)
		saysNothing(t, c)
		sameFacts(t, "Tick", c.Tick())
	}
}

// Commands that were said at unlike times are due, and lost, each at its own.
func TestTickOfUnlikeTimes(t *testing.T) {
	first, second, third := tells(7, true), bare(msgs.FCoff), asks(7, 31, 2)
	c := ctl.New(own, 3, 1)
	asked(t, c, first, second, third)
	saysNext(t, c, first, 0)
	c.Tick()
	saysNext(t, c, second, 1)
	c.Tick()
	saysAll(t, c, third)
	sameFacts(t, "Tick", c.Tick())
	saysAll(t, c, first)
	sameFacts(t, "Tick", c.Tick())
	saysAll(t, c, second)
	sameFacts(t, "Tick", c.Tick())
	saysAll(t, c, third)
	for i, m := range []msgs.Message{first, second, third} {
		sameFacts(t, "Tick", c.Tick(), fact(ctl.Lost, m))
		waits(t, "Tick", c, 0, 2-i)
	}
}

// Some of them have run out, others not: those are lost in their order, these keep theirs.
func TestTickOfSomeThatAreLost(t *testing.T) {
	old := []msgs.Message{bare(msgs.CLD), tells(1, true), asks(1, 9, 1)}
	fresh := []msgs.Message{test("fresh"), bare(msgs.FCon), tells(2, true)}
	c := ctl.New(own, 4, 0)
	asked(t, c, old[0], old[1], fresh[0], old[2], fresh[1], fresh[2])
	for i, m := range []msgs.Message{old[0], old[1], fresh[0], old[2]} {
		saysNext(t, c, m, i)
	}
	asked(t, c, fresh[0])
	c.Tick()
	saysAll(t, c, fresh[1], fresh[2], fresh[0])
	c.Tick()
	c.Tick()
	sameFacts(t, "Tick", c.Tick(), fact(ctl.Lost, old[0]), fact(ctl.Lost, old[1]), fact(ctl.Lost, old[2]))
	waits(t, "Tick", c, 0, 3)
	sameFacts(t, "Tick", c.Tick(), fact(ctl.Lost, fresh[1]), fact(ctl.Lost, fresh[2]), fact(ctl.Lost, fresh[0]))
	waits(t, "Tick", c, 0, 0)
}

// In one tick one is lost, one is to be said again, one goes on, and one was never said.
func TestTickOfAllAtOnce(t *testing.T) {
	lost, again, on, never := bare(msgs.FCon), bare(msgs.FCoff), bare(msgs.CLD), test("never")
	c := said(t, 2, 1, lost)
	c.Tick()
	c.Tick()
	asked(t, c, again)
	saysAll(t, c, lost, again)
	c.Tick()
	asked(t, c, on)
	saysAll(t, c, on)
	asked(t, c, never)
	sameFacts(t, "Tick", c.Tick(), fact(ctl.Lost, lost))
	waits(t, "Tick", c, 0, 3)
	saysAll(t, c, again, never)
	sameFacts(t, "Tick", c.Tick())
	saysAll(t, c, on)
}

// What is to be said again keeps its place: ahead of those that were asked for later, said or not.
func TestPlaceOfWhatIsToBeSaidAgain(t *testing.T) {
	first, second, third, later := tells(9, true), bare(msgs.FCon), asks(9, 30, 2), test("later")
	c := said(t, 2, 3, first, second, third)
	c.Tick()
	asked(t, c, later)
	c.Tick()
	c.Hear(says(asResponse(second)))
	saysAll(t, c, first, third, later)

	c = said(t, 2, 3, first)
	c.Tick()
	asked(t, c, second, third)
	saysNext(t, c, second, 0)
	c.Tick()
	saysAll(t, c, first, third)
	c.Tick()
	saysAll(t, c, second)
	c.Tick()
	saysAll(t, c, first, third)
}

// A command that is asked for again at each moment of its life is a new one.
func TestAskAgainBeginsAnew(t *testing.T) {
	m := tells(3, true)
	for ticks := range 12 {
		b := newBoth(t, own, 3, 2)
		b.ask(bare(msgs.FCon), m, bare(msgs.FCoff))
		b.drain()
		for range ticks {
			b.tick()
			b.drain()
		}
		b.ask(m)
		for range 15 {
			b.tick()
			b.drain()
		}
		waits(t, "Tick", b.c, 0, 0)
	}
}
