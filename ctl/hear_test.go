package ctl_test

import (
	"slices"
	"strings"
	"testing"

	"partyline/ctl"
	"partyline/msc"
	"partyline/msgs"
	"partyline/pn"
)

// P22.4

// refusal is an NSC that refuses a command, in octets.
func refusal(m msgs.Message) string { return says(msgs.Message{Kind: msgs.NSC, Type: says(m)[0]}) }

// some is a command of each Kind that is asked for.
func some() []msgs.Message {
	return []msgs.Message{asks(5, 31, 3), tells(5, true), bare(msgs.FCon), bare(msgs.FCoff), test("ab"), bare(msgs.CLD)}
}

func TestHearOfNothing(t *testing.T) {
	b := newBoth(t, own, 2, 1)
	b.hear("")
	b.ask(some()...)
	b.hear("")
	b.next()
	b.hear("")
}

// A command of each Kind is answered by the same as a response.
func TestHearOfCommands(t *testing.T) {
	all := append(every(), test(""), test(strings.Repeat("\x00", 127)), msgs.Message{Kind: msgs.MSC, Command: true, MSC: msc.Status{DLCI: 63, FC: true, IC: true, DV: true, HasBreak: true, Break: 15}})
	for _, m := range all {
		c := ctl.New(pn.Params{N1: 65535, K: 7}, 2, 1)
		sameFacts(t, "Hear", c.Hear(says(m)), fact(ctl.Heard, m))
		waits(t, "Hear", c, 1, 0)
		saysAll(t, c, asResponse(m))
	}
}

func TestHearOfPN(t *testing.T) {
	for _, r := range []struct{ n1, k, agreedN1, agreedK int }{
		{1, 1, 1, 1}, {63, 3, 63, 3}, {64, 4, 64, 4}, {65, 5, 64, 4}, {65535, 7, 64, 4}, {63, 5, 63, 4}, {65, 3, 64, 3}, {320, 4, 64, 4}, {64, 1, 64, 1},
	} {
		c := ctl.New(own, 2, 1)
		agreed := asks(8, r.agreedN1, r.agreedK)
		sameFacts(t, "Hear", c.Hear(says(asks(8, r.n1, r.k))), fact(ctl.Heard, agreed))
		saysAll(t, c, asResponse(agreed))
	}
}

// Each message that is not known is answered by its octet, and is no fact.
func TestHearOfUnknown(t *testing.T) {
	known := []uint8{0x20, 0x38, 0x28, 0x18, 0x08, 0x30, 0x04}
	for n := range 64 {
		for _, bytes := range []string{"", "\x00", "xyz", strings.Repeat("\xff", 127)} {
			kind := uint8(n)
			if slices.Contains(known, kind) {
				continue
			}
			c := ctl.New(own, 2, 1)
			sameFacts(t, "Hear", c.Hear(says(msgs.Message{Kind: msgs.Unknown, Command: true, Type: kind, Bytes: bytes})))
			waits(t, "Hear", c, 1, 0)
			if info, dlci, ok := c.Next(); info != string([]byte{0x11, 0x03, kind<<2 | 3}) || dlci != 0 || !ok {
				t.Fatalf("type %x: %x, %d, %v", kind, info, dlci, ok)
			}
			sameFacts(t, "Hear", c.Hear(says(msgs.Message{Kind: msgs.Unknown, Type: kind, Bytes: bytes})))
			waits(t, "Hear", c, 0, 0)
		}
	}
}

// An NSC that is a command, and responses of which nothing waits.
func TestHearOfWhatDoesNothing(t *testing.T) {
	for n := range 256 {
		b := newBoth(t, own, 2, 1)
		b.ask(some()...)
		b.drain()
		sameFacts(t, "Hear", b.hear(says(msgs.Message{Kind: msgs.NSC, Command: true, Type: uint8(n)})))
		if n&3 == 1 && n != 0x11 {
			m, _, _ := msgs.Get(string([]byte{byte(n), 1}))
			if m.Kind == msgs.Unknown {
				sameFacts(t, "Hear", b.hear(says(m)))
			}
		}
		waits(t, "Hear", b.c, 0, 6)
	}
	c := ctl.New(own, 2, 1)
	for _, m := range append(every(), some()...) {
		sameFacts(t, "Hear", c.Hear(says(asResponse(m))+refusal(m)))
	}
	waits(t, "Hear", c, 0, 0)
	saysNothing(t, c)
}

func TestHearOfSeveral(t *testing.T) {
	c := ctl.New(own, 2, 1)
	asked(t, c, bare(msgs.FCoff), test("hi"))
	saysAll(t, c, bare(msgs.FCoff), test("hi"))
	info := says(bare(msgs.CLD)) + says(asResponse(test("hi"))) + "\x0f\x03!" + says(tells(9, true)) + refusal(bare(msgs.FCoff)) + says(asResponse(bare(msgs.FCoff))) + says(asks(9, 99, 1))
	sameFacts(t, "Hear", c.Hear(info),
		fact(ctl.Heard, bare(msgs.CLD)), fact(ctl.Answered, asResponse(test("hi"))), fact(ctl.Heard, tells(9, true)), fact(ctl.Refused, bare(msgs.FCoff)), fact(ctl.Heard, asks(9, 64, 1)))
	waits(t, "Hear", c, 4, 0)
	saysAll(t, c, asResponse(bare(msgs.CLD)), msgs.Message{Kind: msgs.NSC, Type: 0x0F}, asResponse(tells(9, true)), asResponse(asks(9, 64, 1)))
}

// A beginning that is whole is heard; from where it is not, nothing is, though there is what would be a message.
func TestHearOfBeginnings(t *testing.T) {
	whole := says(bare(msgs.FCon)) + says(tells(2, true))
	for _, end := range []string{"\xa3", "\x83\x11\x05", "\xa3\x03\x00", "\xa2\x01", "\x00", "\xe3\x05\x07", "\x23\xff", "\x23\x00\x02", "\x13\x01", "\xe3\x05\x06\x8d", "\x83\x11" + strings.Repeat("\x00", 8)} {
		for _, behind := range []string{"", says(bare(msgs.CLD))} {
			b := newBoth(t, own, 2, 1)
			sameFacts(t, "Hear", b.hear(whole + end + behind)[:2], fact(ctl.Heard, bare(msgs.FCon)), fact(ctl.Heard, tells(2, true)))
		}
	}
	for at := range len(whole) {
		b := newBoth(t, own, 2, 1)
		b.hear(whole[:at])
		b.drain()
	}
	c := ctl.New(own, 2, 1)
	sameFacts(t, "Hear", c.Hear(whole+"\xa2\x01"+whole), fact(ctl.Heard, bare(msgs.FCon)), fact(ctl.Heard, tells(2, true)))
	waits(t, "Hear", c, 2, 0)
}

// full is a side of which so many answers wait.
func full(t *testing.T, n int) *both {
	t.Helper()
	b := newBoth(t, own, 2, 1)
	b.hear(strings.Repeat(says(bare(msgs.FCon)), n))
	waits(t, "Hear", b.c, n, 0)
	return b
}

// While as many answers wait as may be, a command does nothing, and is no fact; while one less waits, it does.
func TestHearWhileAnswersWait(t *testing.T) {
	unknown := msgs.Message{Kind: msgs.Unknown, Command: true, Type: 1, Bytes: "?"}
	for _, m := range append(some(), unknown) {
		b := full(t, 63)
		facts := b.hear(says(m))
		if isOne(m) && (len(facts) != 1 || facts[0] != fact(ctl.Heard, m)) || !isOne(m) && len(facts) != 0 {
			t.Fatalf("while 63 wait: %+v", facts)
		}
		waits(t, "Hear", b.c, 64, 0)
		sameFacts(t, "Hear", b.hear(says(m)+says(m)))
		waits(t, "Hear", b.c, 64, 0)
		if all := b.drain(); len(all) != 64 || isOne(m) && all[63] != says(asResponse(m)) || !isOne(m) && all[63] != "\x11\x03\x07" {
			t.Fatalf("said are %d, the last one %x", len(all), all[len(all)-1])
		}

		b = full(t, 64)
		sameFacts(t, "Hear", b.hear(says(m)))
		waits(t, "Hear", b.c, 64, 0)
		b.next()
		b.hear(says(m) + says(m))
		waits(t, "Hear", b.c, 64, 0)
		b.drain()
	}
}

// In one go there are no more either; and what is heard behind them is.
func TestHearOfMoreThanMayWait(t *testing.T) {
	c := said(t, 9, 1, test("mine"))
	facts := c.Hear(strings.Repeat(says(bare(msgs.CLD)), 65) + says(asResponse(test("mine"))) + says(bare(msgs.CLD)))
	if len(facts) != 65 || facts[63] != fact(ctl.Heard, bare(msgs.CLD)) || facts[64] != fact(ctl.Answered, asResponse(test("mine"))) {
		t.Fatalf("%d facts", len(facts))
	}
	waits(t, "Hear", c, 64, 0)
	c.Hear(strings.Repeat("\x0f\x01", 100) + strings.Repeat(says(bare(msgs.FCon)), 100))
	waits(t, "Hear", c, 64, 0)
	for i := range 64 {
		saysNext(t, c, asResponse(bare(msgs.CLD)), i)
	}
	saysNothing(t, c)
}

// answersTo says a command's response, or its refusal, and what it tells.
var answersTo = []struct {
	say  func(m msgs.Message) string
	tell func(m msgs.Message) ctl.Fact
}{
	{func(m msgs.Message) string { return says(asResponse(m)) }, func(m msgs.Message) ctl.Fact { return fact(ctl.Answered, asResponse(m)) }},
	{refusal, func(m msgs.Message) ctl.Fact { return fact(ctl.Refused, m) }},
}

func TestHearOfResponses(t *testing.T) {
	for _, m := range every() {
		for _, a := range answersTo {
			c := ctl.New(own, 2, 1)
			asked(t, c, m)
			sameFacts(t, "Hear ahead of Next", c.Hear(a.say(m)))
			waits(t, "Hear ahead of Next", c, 0, 1)
			saysAll(t, c, m)
			sameFacts(t, "Hear", c.Hear(a.say(m)+a.say(m)), a.tell(m))
			waits(t, "Hear", c, 0, 0)
			sameFacts(t, "Hear of one that is gone", c.Hear(a.say(m)))
			c.Tick()
			c.Tick()
			saysNothing(t, c)

			again := said(t, 2, 1, m)
			again.Tick()
			again.Tick()
			if !again.Has() {
				t.Fatalf("%+v is not to be said again", m)
			}
			sameFacts(t, "Hear while it is to be said again", again.Hear(a.say(m)), a.tell(m))
			waits(t, "Hear while it is to be said again", again, 0, 0)
			saysNothing(t, again)

			twice := said(t, 2, 1, m)
			twice.Tick()
			twice.Tick()
			saysAll(t, twice, m)
			twice.Tick()
			sameFacts(t, "Hear of one that was said again", twice.Hear(a.say(m)), a.tell(m))
			sameFacts(t, "Tick", twice.Tick())

			lost := said(t, 1, 0, m)
			sameFacts(t, "Tick", lost.Tick(), fact(ctl.Lost, m))
			sameFacts(t, "Hear of one that is lost", lost.Hear(a.say(m)))
		}
	}
}

// A response of another Kind, or another channel, answers nothing.
func TestHearOfResponsesToOthers(t *testing.T) {
	for _, m := range every() {
		c := said(t, 2, 1, m)
		for _, other := range every() {
			if !plainSame(m, other) {
				sameFacts(t, "Hear", c.Hear(says(asResponse(other))))
			}
		}
		waits(t, "Hear", c, 0, 1)
		sameFacts(t, "Hear", c.Hear(says(asResponse(m))), fact(ctl.Answered, asResponse(m)))
	}
}

func TestHearOfPNResponses(t *testing.T) {
	m := asks(5, 31, 3)
	with := func(change func(p *pn.Params)) msgs.Message {
		r := asResponse(m)
		change(&r.PN)
		return r
	}
	for _, change := range []func(p *pn.Params){
		func(p *pn.Params) { p.DLCI = 6 }, func(p *pn.Params) { p.Frame = 1 }, func(p *pn.Params) { p.CL = 2 }, func(p *pn.Params) { p.Priority = 8 },
		func(p *pn.Params) { p.T1 = 9 }, func(p *pn.Params) { p.T1 = 11 }, func(p *pn.Params) { p.N2 = 2 }, func(p *pn.Params) { p.N2 = 4 },
		func(p *pn.Params) { p.N1 = 32 }, func(p *pn.Params) { p.K = 4 }, func(p *pn.Params) { p.N1, p.K = 1, 4 }, func(p *pn.Params) { p.N1, p.K = 32, 1 }, func(p *pn.Params) { p.N1 = 287 },
	} {
		c := said(t, 2, 1, m)
		sameFacts(t, "Hear", c.Hear(says(with(change))))
		waits(t, "Hear", c, 0, 1)
	}
	for _, change := range []func(p *pn.Params){
		func(p *pn.Params) {}, func(p *pn.Params) { p.N1 = 30 }, func(p *pn.Params) { p.K = 2 }, func(p *pn.Params) { p.N1, p.K = 1, 1 },
	} {
		c := said(t, 2, 1, m)
		r := with(change)
		sameFacts(t, "Hear", c.Hear(says(r)), fact(ctl.Answered, r))
		waits(t, "Hear", c, 0, 0)
	}
}

func TestHearOfMSCResponses(t *testing.T) {
	status := msc.Status{DLCI: 5, RTC: true, DV: true, HasBreak: true, Break: 3}
	m := msgs.Message{Kind: msgs.MSC, Command: true, MSC: status}
	for _, change := range []func(s *msc.Status){
		func(s *msc.Status) { s.DLCI = 4 }, func(s *msc.Status) { s.FC = true }, func(s *msc.Status) { s.RTC = false }, func(s *msc.Status) { s.RTR = true },
		func(s *msc.Status) { s.IC = true }, func(s *msc.Status) { s.DV = false }, func(s *msc.Status) { s.Break = 2 }, func(s *msc.Status) { s.HasBreak, s.Break = false, 0 },
	} {
		c := said(t, 2, 1, m)
		r := asResponse(m)
		change(&r.MSC)
		sameFacts(t, "Hear", c.Hear(says(r)))
		waits(t, "Hear", c, 0, 1)
		sameFacts(t, "Hear", c.Hear(says(asResponse(m))), fact(ctl.Answered, asResponse(m)))
	}
}

func TestHearOfTestResponses(t *testing.T) {
	long := strings.Repeat("q", 127)
	for _, r := range []struct{ asked, other string }{{"ab", ""}, {"", "a"}, {"ab", "a"}, {"ab", "abc"}, {"ab", "aB"}, {"ab", "ba"}, {long, long[:126]}, {long, long[:126] + "r"}} {
		c := said(t, 2, 1, test(r.asked))
		sameFacts(t, "Hear", c.Hear(says(asResponse(test(r.other)))))
		waits(t, "Hear", c, 0, 1)
		sameFacts(t, "Hear", c.Hear(says(asResponse(test(r.asked)))), fact(ctl.Answered, asResponse(test(r.asked))))
	}
}

// An NSC of each Type refuses the command whose octet it is, and no other one: not one whose octet as a response it is.
func TestHearOfNSC(t *testing.T) {
	octets := []uint8{0x83, 0xE3, 0xA3, 0x63, 0x23, 0xC3}
	for n := range 256 {
		b := newBoth(t, own, 2, 1)
		b.ask(some()...)
		b.drain()
		facts := b.hear(string([]byte{0x11, 0x03, byte(n)}))
		at := slices.Index(octets, uint8(n))
		if at < 0 {
			sameFacts(t, "Hear", facts)
			waits(t, "Hear", b.c, 0, 6)
			continue
		}
		sameFacts(t, "Hear", facts, fact(ctl.Refused, some()[at]))
		waits(t, "Hear", b.c, 0, 5)
	}
}

// Of two whose octet it is, the first one is refused that waits and was said.
func TestHearOfNSCOfTwo(t *testing.T) {
	for _, two := range [][2]msgs.Message{{asks(9, 31, 3), asks(2, 7, 7)}, {tells(0, true), tells(63, false)}, {tells(63, false), tells(0, true)}} {
		c := said(t, 4, 1, bare(msgs.FCon), two[0], two[1])
		sameFacts(t, "Hear", c.Hear(refusal(two[1])), fact(ctl.Refused, two[0]))
		sameFacts(t, "Hear", c.Hear(refusal(two[0])), fact(ctl.Refused, two[1]))
		sameFacts(t, "Hear", c.Hear(refusal(two[0])))
		waits(t, "Hear", c, 0, 1)

		one := said(t, 4, 1, two[0])
		asked(t, one, two[1])
		sameFacts(t, "Hear", one.Hear(refusal(two[0])+refusal(two[0])), fact(ctl.Refused, two[0]))
		waits(t, "Hear", one, 0, 1)
		saysAll(t, one, two[1])

		back := said(t, 4, 1, two[0], two[1])
		asked(t, back, two[0])
		sameFacts(t, "Hear", back.Hear(refusal(two[0])+refusal(two[0])), fact(ctl.Refused, two[1]))
		saysAll(t, back, two[0])
		sameFacts(t, "Hear", back.Hear(refusal(two[1])), fact(ctl.Refused, two[0]))
		waits(t, "Hear", back, 0, 0)
	}
}
