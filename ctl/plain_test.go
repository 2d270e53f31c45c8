package ctl_test

import (
	"partyline/api"
	"partyline/ctl"
	"partyline/msc"
	"partyline/msgs"
	"partyline/pn"
)

// plainCtl is the chapter's words: each thing that they tell of a command is kept by itself, and each number is in its bounds from the beginning.
type plainCtl struct {
	n1, k, t2, n2 int
	answers       []msgs.Message
	commands      []*plainCommand
}

type plainCommand struct {
	m           msgs.Message
	toBeSaid    bool
	wasSaid     bool // once, or oftener
	left, tries int
}

func newPlain(own pn.Params, t2, n2 int) *plainCtl {
	return &plainCtl{n1: brought(own.N1, 1, 65535), k: brought(own.K, 1, 7), t2: brought(t2, 1, 255), n2: brought(n2, 0, 255)}
}

func brought(n, least, greatest int) int {
	if n < least {
		return least
	}
	if n > greatest {
		return greatest
	}
	return n
}

// plainChannel is a message's channel.
func plainChannel(m msgs.Message) int {
	if m.Kind == msgs.PN {
		return int(m.PN.DLCI)
	}
	if m.Kind == msgs.MSC {
		return int(m.MSC.DLCI)
	}
	return 0
}

func plainSame(a, b msgs.Message) bool {
	return a.Kind == b.Kind && plainChannel(a) == plainChannel(b)
}

// isOne asks whether a message is of a Kind that is asked for, and answered.
func isOne(m msgs.Message) bool { return m.Kind >= 1 && m.Kind <= 6 }

func (p *plainCtl) ask(m msgs.Message) api.Errno {
	if !msgs.May(m) || !m.Command || !isOne(m) || len(m.Bytes) > 127 {
		return api.ErrArg
	}
	var others []*plainCommand
	for _, x := range p.commands {
		if !plainSame(x.m, m) {
			others = append(others, x)
		}
	}
	p.commands = append(others, &plainCommand{m: m, toBeSaid: true})
	return api.OK
}

// first is the first command that is to be said; nil, if there is none.
func (p *plainCtl) first() *plainCommand {
	for _, x := range p.commands {
		if x.toBeSaid {
			return x
		}
	}
	return nil
}

func (p *plainCtl) has() bool { return len(p.answers) > 0 || p.first() != nil }

// next is the message that is said, and whether there is one.
func (p *plainCtl) next() (msgs.Message, bool) {
	if len(p.answers) > 0 {
		m := p.answers[0]
		p.answers = p.answers[1:]
		return m, true
	}
	x := p.first()
	if x == nil {
		return msgs.Message{}, false
	}
	x.toBeSaid, x.wasSaid, x.left = false, true, p.t2
	return x.m, true
}

func (p *plainCtl) hear(info string) []ctl.Fact {
	var facts []ctl.Fact
	for {
		m, size, e := msgs.Get(info)
		if e != api.OK {
			return facts
		}
		info = info[size:]
		if m.Command {
			facts = append(facts, p.hearCommand(m)...)
		} else {
			facts = append(facts, p.hearResponse(m)...)
		}
	}
}

func (p *plainCtl) hearCommand(m msgs.Message) []ctl.Fact {
	if len(p.answers) == 64 {
		return nil
	}
	if m.Kind == msgs.Unknown {
		p.answers = append(p.answers, msgs.Message{Kind: msgs.NSC, Type: 4*m.Type + 3})
		return nil
	}
	if !isOne(m) {
		return nil
	}
	if m.Kind == msgs.PN {
		m.PN.N1 = brought(m.PN.N1, 1, p.n1)
		m.PN.K = brought(m.PN.K, 1, p.k)
	}
	p.answers = append(p.answers, asResponse(m))
	return []ctl.Fact{{Kind: ctl.Heard, Message: m}}
}

func (p *plainCtl) hearResponse(r msgs.Message) []ctl.Fact {
	for i, x := range p.commands {
		if !x.wasSaid {
			continue
		}
		rest := func() []*plainCommand {
			return append(append([]*plainCommand{}, p.commands[:i]...), p.commands[i+1:]...)
		}
		if plainSame(x.m, r) && plainAnswers(x.m, r) {
			p.commands = rest()
			return []ctl.Fact{{Kind: ctl.Answered, Message: r}}
		}
		if r.Kind == msgs.NSC && r.Type == says(x.m)[0] {
			p.commands = rest()
			return []ctl.Fact{{Kind: ctl.Refused, Message: x.m}}
		}
	}
	return nil
}

// plainAnswers holds what a response says, field by field, against a command of its Kind and channel.
func plainAnswers(m, r msgs.Message) bool {
	a, b := m.PN, r.PN
	return a.Frame == b.Frame && a.CL == b.CL && a.Priority == b.Priority && a.T1 == b.T1 && a.N2 == b.N2 && b.N1 <= a.N1 && b.K <= a.K &&
		m.MSC == r.MSC && m.Bytes == r.Bytes
}

func (p *plainCtl) tick() []ctl.Fact {
	var facts []ctl.Fact
	var still []*plainCommand
	for _, x := range p.commands {
		if x.toBeSaid {
			still = append(still, x)
			continue
		}
		x.left--
		if x.left == 0 && x.tries == p.n2 {
			facts = append(facts, ctl.Fact{Kind: ctl.Lost, Message: x.m})
			continue
		}
		if x.left == 0 {
			x.tries++
			x.toBeSaid = true
		}
		still = append(still, x)
	}
	p.commands = still
	return facts
}

// says is a message's octets.
func says(m msgs.Message) string {
	s, e := msgs.Put(m)
	if e != api.OK {
		panic("a test's message can't be put")
	}
	return s
}

func asResponse(m msgs.Message) msgs.Message {
	m.Command = false
	return m
}

// The commands that there are, for tests.

func bare(kind uint8) msgs.Message { return msgs.Message{Kind: kind, Command: true} }

func test(bytes string) msgs.Message {
	return msgs.Message{Kind: msgs.Test, Command: true, Bytes: bytes}
}

// asks is a PN.
func asks(dlci uint8, n1, k int) msgs.Message {
	return msgs.Message{Kind: msgs.PN, Command: true, PN: pn.Params{DLCI: dlci, Frame: 2, CL: 3, Priority: 7, T1: 10, N1: n1, N2: 3, K: k}}
}

// tells is an MSC.
func tells(dlci uint8, fc bool) msgs.Message {
	return msgs.Message{Kind: msgs.MSC, Command: true, MSC: msc.Status{DLCI: dlci, FC: fc, RTC: true}}
}

// every command that may wait beside all others.
func every() []msgs.Message {
	all := []msgs.Message{bare(msgs.FCon), bare(msgs.FCoff), test("to and fro"), bare(msgs.CLD), tells(0, true)}
	for d := uint8(1); d <= 63; d++ {
		all = append(all, asks(d, 30+int(d), 1+int(d)%7), tells(d, d%2 == 0))
	}
	return all
}

// dice are numbers that follow no plain rule.
type dice uint32

func (d *dice) roll(n int) int {
	*d = *d*1664525 + 1013904223
	return int(*d>>8) % n
}
