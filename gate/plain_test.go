package gate_test

// plainGate is the chapter's words: all that was ever called, one behind the other, is looked through for the last call that says something of what is asked.
type plainGate struct{ calls []plainCall }

// plainCall is a Stop of a channel, or, where dlci is whole, an All.
type plainCall struct {
	dlci int
	is   bool // stopped; or open
}

const whole = -1

func (g *plainGate) all(open bool) { g.calls = append(g.calls, plainCall{whole, open}) }

func (g *plainGate) stop(dlci int, stopped bool) {
	if dlci >= 1 && dlci <= 63 {
		g.calls = append(g.calls, plainCall{dlci, stopped})
	}
}

// last is what the last call of that number said, or what was so at first.
func (g *plainGate) last(dlci int, first bool) bool {
	for i := len(g.calls) - 1; i >= 0; i-- {
		if g.calls[i].dlci == dlci {
			return g.calls[i].is
		}
	}
	return first
}

func (g *plainGate) open() bool { return g.last(whole, true) }

func (g *plainGate) may(dlci int) bool {
	if dlci == 0 {
		return true
	}
	if dlci > 63 {
		return false
	}
	return g.open() && !g.last(dlci, false)
}

func (g *plainGate) stopped() []uint8 {
	var all []uint8
	for d := 1; d <= 63; d++ {
		if g.last(d, false) {
			all = append(all, uint8(d))
		}
	}
	return all
}

// dice are numbers that follow no plain rule.
type dice uint32

func (d *dice) roll(n int) int {
	*d = *d*1664525 + 1013904223
	return int(*d>>8) % n
}

// edges are numbers of channels at their bounds and past them; among them some that might be channels, if less than all of their bits were read.
var edges = []int{0, 1, 2, 3, 5, 30, 31, 32, 33, 61, 62, 63, 64, 65, 66, 69, 95, 96, 126, 127, 128, 129, 191, 192, 193, 197, 254, 255}
