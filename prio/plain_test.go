package prio_test

import "partyline/api"

// plainPrio is the chapter's words: all turns that were ever taken, one behind the other, are looked through for the last one of a class.
type plainPrio struct {
	class [64]int
	ready [64]bool
	turns []plainTurn
}

// plainTurn is of a channel, in the class that it had then.
type plainTurn struct{ dlci, class int }

// firstClasses are written out as the chapter tells them, by the greatest channel of each row.
var firstClasses = []struct{ upTo, class int }{{0, 0}, {7, 7}, {15, 15}, {23, 23}, {31, 31}, {39, 39}, {47, 47}, {55, 55}, {63, 61}}

func firstClass(dlci int) int {
	for _, r := range firstClasses {
		if dlci <= r.upTo {
			return r.class
		}
	}
	return 0
}

func newPlain() *plainPrio {
	p := &plainPrio{}
	for d := range p.class {
		p.class[d] = firstClass(d)
	}
	return p
}

func (p *plainPrio) setClass(dlci, class int) api.Errno {
	if dlci > 63 || class > 63 {
		return api.ErrArg
	}
	p.class[dlci] = class
	return api.OK
}

func (p *plainPrio) setReady(dlci int, ready bool) api.Errno {
	if dlci > 63 {
		return api.ErrArg
	}
	p.ready[dlci] = ready
	return api.OK
}

// may tells the channels that may, rising.
func (p *plainPrio) may() []int {
	var all []int
	for class := 0; class <= 63 && all == nil; class++ {
		for d, ready := range p.ready {
			if ready && p.class[d] == class {
				all = append(all, d)
			}
		}
	}
	return all
}

func (p *plainPrio) mayOne(dlci int) bool {
	for _, d := range p.may() {
		if d == dlci {
			return true
		}
	}
	return false
}

func (p *plainPrio) take(dlci int) bool {
	if !p.mayOne(dlci) {
		return false
	}
	p.turns = append(p.turns, plainTurn{dlci, p.class[dlci]})
	return true
}

// lastIn is who took a turn last in a class; -1, if none did yet.
func (p *plainPrio) lastIn(class int) int {
	for i := len(p.turns) - 1; i >= 0; i-- {
		if p.turns[i].class == class {
			return p.turns[i].dlci
		}
	}
	return -1
}

func (p *plainPrio) pick() (int, bool) {
	all := p.may()
	if len(all) == 0 {
		return 0, false
	}
	next := all[0]
	last := p.lastIn(p.class[next])
	for i := len(all) - 1; i >= 0; i-- {
		if all[i] > last {
			next = all[i]
		}
	}
	p.take(next)
	return next, true
}

// dice are numbers that follow no plain rule.
type dice uint32

func (d *dice) roll(n int) int {
	*d = *d*1664525 + 1013904223
	return int(*d>>8) % n
}

// edges are numbers of channels, and of classes, at their bounds and past them; among them some that might be, if less than all of their bits were read.
var edges = []int{0, 1, 2, 6, 7, 8, 15, 16, 31, 32, 55, 56, 60, 61, 62, 63, 64, 65, 66, 127, 128, 129, 191, 192, 193, 254, 255}
