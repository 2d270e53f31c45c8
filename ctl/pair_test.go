package ctl_test

import (
	"slices"
	"strings"
	"testing"

	"partyline/ctl"
	"partyline/msgs"
	"partyline/pn"
)

// P22.7

// pair is two sides; what is said by each is under way to the other one till it comes, or is lost.
type pair struct {
	t     *testing.T
	sides [2]*ctl.Ctl
	way   [2][]string
	facts [2][]ctl.Fact
}

func newPair(t *testing.T, t2, n2 int) *pair {
	return &pair{t: t, sides: [2]*ctl.Ctl{ctl.New(pn.Params{N1: 40, K: 5}, t2, n2), ctl.New(pn.Params{N1: 70, K: 2}, t2, n2)}}
}

// say puts what a side says next under way.
func (p *pair) say(side int) bool {
	info, _, ok := p.sides[side].Next()
	if ok {
		p.way[side] = append(p.way[side], info)
	}
	return ok
}

// come brings the first so many that a side said to the other one, in one go.
func (p *pair) come(side, n int) {
	n = min(n, len(p.way[side]))
	info := strings.Join(p.way[side][:n], "")
	p.way[side] = p.way[side][n:]
	p.facts[1-side] = append(p.facts[1-side], p.sides[1-side].Hear(info)...)
}

func (p *pair) lose(side int) { p.way[side] = p.way[side][min(1, len(p.way[side])):] }

func (p *pair) tick() {
	for side, c := range p.sides {
		p.facts[side] = append(p.facts[side], c.Tick()...)
	}
}

// settle lets all be said, and come, till there is nothing more. Both take turns, so that never more answers are owed than may wait.
func (p *pair) settle() {
	for goesOn := true; goesOn; {
		first, second := p.say(0), p.say(1)
		p.come(0, 99)
		p.come(1, 99)
		goesOn = first || second
	}
}

func (p *pair) count(side int, kind uint8, m msgs.Message) int {
	n := 0
	for _, f := range p.facts[side] {
		if f == fact(kind, m) {
			n++
		}
	}
	return n
}

// once holds that what a side asked for was Heard there, and Answered here, once, and that there are no other facts, and nothing waits.
func (p *pair) once(all [2][]msgs.Message) {
	p.t.Helper()
	for side := range 2 {
		for _, m := range all[side] {
			m = p.agreed(1-side, m)
			if h, a := p.count(1-side, ctl.Heard, m), p.count(side, ctl.Answered, asResponse(m)); h != 1 || a != 1 {
				p.t.Fatalf("side %d: %+v was Heard %d and Answered %d times", side, m, h, a)
			}
		}
		if n := len(p.facts[side]); n != len(all[0])+len(all[1]) {
			p.t.Fatalf("side %d: %d facts", side, n)
		}
		waits(p.t, "all that", p.sides[side], 0, 0)
		saysNothing(p.t, p.sides[side])
	}
}

// agreed is what that side makes of a PN.
func (p *pair) agreed(side int, m msgs.Message) msgs.Message {
	if m.Kind == msgs.PN {
		m.PN.N1 = min(m.PN.N1, []int{40, 70}[side])
		m.PN.K = min(m.PN.K, []int{5, 2}[side])
	}
	return m
}

func TestEachCommandAlone(t *testing.T) {
	for _, m := range append(every(), test(""), test(strings.Repeat("\x7e", 127)), asks(1, 65535, 7)) {
		for side := range 2 {
			p := newPair(t, 3, 0)
			asked(t, p.sides[side], m)
			p.settle()
			var all [2][]msgs.Message
			all[side] = []msgs.Message{m}
			p.once(all)
		}
	}
}

func TestAllCommandsOfBothSides(t *testing.T) {
	p := newPair(t, 3, 0)
	back := every()
	slices.Reverse(back)
	asked(t, p.sides[0], every()...)
	asked(t, p.sides[1], back...)
	p.settle()
	p.once([2][]msgs.Message{every(), back})
}

// Whatever is asked and said when, and in however great pieces it comes: all of it comes, behind one or another while.
func TestAllComes(t *testing.T) {
	for seed := range dice(80) {
		d := seed
		p := newPair(t, 255, 0)
		var all, left [2][]msgs.Message
		for side := range left {
			for _, m := range every() {
				if d.roll(3) > 0 {
					left[side] = append(left[side], m)
				}
			}
			all[side] = left[side]
		}
		for range 600 {
			side := d.roll(2)
			switch d.roll(5) {
			case 0:
				if len(left[side]) > 0 {
					asked(t, p.sides[side], left[side][0])
					left[side] = left[side][1:]
				}
			case 1, 2:
				p.say(side)
			default:
				n := 1 + d.roll(6)
				if answers, _ := p.sides[1-side].Waits(); answers+n <= 64 {
					p.come(side, n)
				}
			}
		}
		for side := range left {
			asked(t, p.sides[side], left[side]...)
		}
		for len(p.way[0])+len(p.way[1]) > 0 {
			for side := range 2 {
				p.come(side, 1)
				p.say(1 - side)
			}
		}
		p.settle()
		p.once(all)
	}
}

// Some is lost, ticks come, and all comes in the end: all is Heard, once or oftener, and Answered once.
func TestSomeIsLost(t *testing.T) {
	for seed := range dice(40) {
		d := seed
		p := newPair(t, 1+d.roll(4), 255)
		all := [2][]msgs.Message{every(), every()}
		for side := range 2 {
			asked(t, p.sides[side], all[side]...)
		}
		for range 1500 {
			side := d.roll(2)
			switch d.roll(12) {
			case 0:
				p.lose(side)
			case 1:
				p.tick()
			case 2, 3, 4, 5, 6:
				p.say(side)
			default:
				p.come(side, 1+d.roll(3))
			}
		}
		for range 8 {
			p.settle()
			p.come(0, 99)
			p.come(1, 99)
			p.tick()
		}
		p.settle()
		for side := range 2 {
			for _, m := range all[side] {
				m = p.agreed(1-side, m)
				if h, a := p.count(1-side, ctl.Heard, m), p.count(side, ctl.Answered, asResponse(m)); h < 1 || a != 1 {
					t.Fatalf("seed %d: %+v was Heard %d and Answered %d times", seed, m, h, a)
				}
			}
			waits(t, "all that", p.sides[side], 0, 0)
		}
	}
}

// What comes twice is Heard twice, but Answered once.
func TestALostResponse(t *testing.T) {
	for _, m := range every() {
		p := newPair(t, 1, 1)
		asked(t, p.sides[0], m)
		p.say(0)
		p.come(0, 1)
		p.say(1)
		p.lose(1)
		p.tick()
		p.settle()
		m = p.agreed(1, m)
		if h, a := p.count(1, ctl.Heard, m), p.count(0, ctl.Answered, asResponse(m)); h != 2 || a != 1 || len(p.facts[0]) != 1 {
			t.Fatalf("%+v was Heard %d and Answered %d times", m, h, a)
		}
		waits(t, "all that", p.sides[0], 0, 0)
		waits(t, "all that", p.sides[1], 0, 0)
	}
}

// Nothing comes back: each is said N2 and 1 times, and Lost once; nothing else is told.
func TestNothingComesBack(t *testing.T) {
	for _, r := range []struct{ t2, n2 int }{{1, 0}, {1, 1}, {3, 0}, {3, 4}, {2, 255}} {
		p := newPair(t, r.t2, r.n2)
		asked(t, p.sides[0], every()...)
		times := map[string]int{}
		for range (r.n2 + 1) * r.t2 {
			for p.say(0) {
				times[p.way[0][0]]++
				p.lose(0)
			}
			if len(p.facts[0]) != 0 {
				t.Fatalf("T2 %d, N2 %d: %d facts ahead of their time", r.t2, r.n2, len(p.facts[0]))
			}
			p.tick()
		}
		for _, m := range every() {
			if n, l := times[says(m)], p.count(0, ctl.Lost, m); n != r.n2+1 || l != 1 {
				t.Fatalf("T2 %d, N2 %d: %+v was said %d times, and Lost %d times", r.t2, r.n2, m, n, l)
			}
		}
		if len(p.facts[0]) != 131 {
			t.Fatalf("%d facts", len(p.facts[0]))
		}
		waits(t, "all that", p.sides[0], 0, 0)
	}
}

// Of one command, what is told and said of it, tick by tick, is the same, whatever is done with another one.
func TestApart(t *testing.T) {
	for _, m := range every()[:7] {
		want := story(t, m, msgs.Message{}, 0)
		for _, other := range every() {
			if plainSame(m, other) {
				continue
			}
			for what := range 6 {
				if got := story(t, m, other, what); !slices.Equal(got, want) {
					t.Fatalf("%+v beside %+v, of which %d is done: %q, not %q", m, other, what, got, want)
				}
			}
		}
	}
}

// story is what is said of m, and when it is Lost, or Answered in the end; beside another one, if there is one, of which something is done.
func story(t *testing.T, m, other msgs.Message, what int) []string {
	c := ctl.New(own, 2, 2)
	var all []string
	if other.Kind != 0 {
		asked(t, c, other)
	}
	asked(t, c, m)
	tell := func(facts []ctl.Fact) {
		for _, f := range facts {
			if plainSame(f.Message, m) {
				all = append(all, string([]byte{'0' + f.Kind}))
			}
		}
	}
	for tick := range 14 {
		for info, _, ok := c.Next(); ok; info, _, ok = c.Next() {
			if info == says(m) {
				all = append(all, info)
			}
		}
		if other.Kind != 0 {
			meddle(c, other, what, tick, tell)
		}
		tell(c.Tick())
		all = append(all, "tick")
		if tick == 7 {
			c.Ask(m)
		}
		if tick == 9 {
			tell(c.Hear(says(asResponse(m))))
		}
	}
	return all
}

// meddle does something with the other command. To refuse it is told of no channel, so that is done where none other has its Kind.
func meddle(c *ctl.Ctl, other msgs.Message, what, tick int, tell func([]ctl.Fact)) {
	switch what {
	case 1:
		tell(c.Hear(says(asResponse(other))))
	case 2:
		c.Ask(other)
	case 3:
		if other.Kind != msgs.PN && other.Kind != msgs.MSC {
			tell(c.Hear(refusal(other)))
		}
	case 4:
		if tick%3 == 1 {
			tell(c.Hear(says(asResponse(other)) + says(asResponse(other))))
			c.Ask(other)
		}
	case 5:
		c.Hear("\x0f\x01")
	}
}

// Never more than 64 answers, and 131 commands, wait.
func TestBounds(t *testing.T) {
	d := dice(5)
	c := ctl.New(own, 1, 1)
	most := [2]int{}
	for range 4000 {
		all := every()
		m := all[d.roll(len(all))]
		if m.Kind == msgs.Test {
			m.Bytes = strings.Repeat("x", d.roll(128))
		}
		asked(t, c, m)
		c.Hear(strings.Repeat(says(all[d.roll(len(all))]), d.roll(5)) + strings.Repeat("\x0f\x01", d.roll(3)))
		for range d.roll(4) {
			c.Next()
		}
		answers, commands := c.Waits()
		most = [2]int{max(most[0], answers), max(most[1], commands)}
		if answers > 64 || commands > 131 {
			t.Fatalf("%d answers and %d commands wait", answers, commands)
		}
	}
	if most != [2]int{64, 131} {
		t.Fatalf("the most that waited are %v", most)
	}
}
