package ctl_test

import (
	"testing"

	"partyline/msc"
	"partyline/msgs"
	"partyline/pn"
)

// Calls as they fall, held against the chapter's words told plainly.

// anyCommand is one of few, so that the same one falls often.
func (d *dice) anyCommand() msgs.Message {
	switch d.roll(9) {
	case 0, 1:
		m := asks([]uint8{1, 2, 63}[d.roll(3)], []int{1, 30, 64, 65, 300}[d.roll(5)], 1+d.roll(7))
		m.PN.Priority = uint8(d.roll(2))
		return m
	case 2, 3:
		return msgs.Message{Kind: msgs.MSC, Command: true, MSC: msc.Status{DLCI: []uint8{0, 1, 2, 63}[d.roll(4)], FC: d.roll(2) == 0, DV: d.roll(2) == 0}}
	case 4, 5:
		return test([]string{"", "a", "ab"}[d.roll(3)])
	}
	return bare([]uint8{msgs.FCon, msgs.FCoff, msgs.CLD}[d.roll(3)])
}

// anyAsked is mostly a command that may be asked for.
func (d *dice) anyAsked() msgs.Message {
	switch d.roll(12) {
	case 0:
		return asResponse(d.anyCommand())
	case 1:
		all := mayNot()
		return all[d.roll(len(all))]
	case 2:
		return msgs.Message{Kind: uint8(d.roll(10)), Command: true, Type: uint8(d.roll(64))}
	}
	return d.anyCommand()
}

// anyHeard is one thing that is heard: often a response to what waits, or nearly one.
func (d *dice) anyHeard(p *plainCtl) string {
	switch d.roll(10) {
	case 0, 1, 2:
		return says(d.anyCommand())
	case 3:
		return string([]byte{byte(d.roll(64)<<2 | d.roll(2)<<1 | 1), 1})
	case 4:
		return string([]byte{0x11 | byte(d.roll(9)/8*2), 3, byte(d.roll(256))})
	case 5:
		return says(asResponse(d.anyCommand()))
	case 6:
		if d.roll(6) == 0 {
			return []string{"\xa3", "\xa2\x01", "\x83\x11\x00", "\x23\x81"}[d.roll(4)]
		}
	}
	if len(p.commands) == 0 {
		return ""
	}
	m := p.commands[d.roll(len(p.commands))].m
	if d.roll(4) == 0 {
		return refusal(m)
	}
	if m.Kind == msgs.PN {
		m.PN.N1 = max(m.PN.N1+d.roll(4)-2, 1)
		m.PN.K = min(m.PN.K+d.roll(3)-1, 7)
		m.PN.K = max(m.PN.K, 1)
	}
	return says(asResponse(m))
}

func TestCallsAsTheyFall(t *testing.T) {
	for seed := range dice(150) {
		d := seed
		b := newBoth(t, pn.Params{N1: d.roll(80) - 2, K: d.roll(10) - 1}, d.roll(6)-1, d.roll(5)-1)
		talks := 1 + d.roll(4)
		for range 250 {
			switch n := d.roll(8); {
			case n == 0:
				b.tick()
			case n < 3:
				b.ask(d.anyAsked())
			case n < 3+talks:
				b.next()
			default:
				info := ""
				for range d.roll(5) {
					info += d.anyHeard(b.p)
				}
				b.hear(info)
			}
		}
		for range 30 {
			b.drain()
			b.tick()
		}
		waits(t, "all that", b.c, 0, 0)
	}
}
