package ctl_test

import (
	"math"
	"slices"
	"strings"
	"testing"

	"partyline/api"
	"partyline/ctl"
	"partyline/msc"
	"partyline/msgs"
	"partyline/pn"
)

func TestExamples(t *testing.T) {
	c := ctl.New(pn.Params{N1: 64, K: 4}, 2, 1)
	if e := c.Ask(bare(msgs.FCoff)); e != api.OK {
		t.Fatalf("Ask: %v", e)
	}
	if info, dlci, ok := c.Next(); info != "\x63\x01" || dlci != 0 || !ok {
		t.Fatalf("Next: %x, %d, %v", info, dlci, ok)
	}
	saysNothing(t, c)
	sameFacts(t, "Tick", c.Tick())
	sameFacts(t, "Tick", c.Tick())
	if info, dlci, ok := c.Next(); info != "\x63\x01" || dlci != 0 || !ok {
		t.Fatalf("Next: %x, %d, %v", info, dlci, ok)
	}
	sameFacts(t, "Tick", c.Tick())
	sameFacts(t, "Tick", c.Tick(), fact(ctl.Lost, bare(msgs.FCoff)))
	sameFacts(t, "Hear", c.Hear("\xa3\x01\x0f\x01"), fact(ctl.Heard, bare(msgs.FCon)))
	for _, want := range []string{"\xa1\x01", "\x11\x03\x0f"} {
		if info, dlci, ok := c.Next(); info != want || dlci != 0 || !ok {
			t.Fatalf("Next: %x, %d, %v, not %x", info, dlci, ok, want)
		}
	}
	saysNothing(t, c)
}

// P22.1

func TestNewWaitsForNothing(t *testing.T) {
	for _, own := range []pn.Params{{}, {N1: 64, K: 4}, {N1: -1, K: -1}, {N1: math.MaxInt, K: math.MaxInt}, {DLCI: 255, Frame: 255, CL: 255, Priority: 255, T1: -9, N1: math.MinInt, N2: -9, K: math.MinInt}} {
		for _, n := range []int{math.MinInt, -1, 0, 1, 7, 255, 256, math.MaxInt} {
			c := ctl.New(own, n, n)
			if c == nil {
				t.Fatalf("New(%+v, %d, %d): nil", own, n, n)
			}
			waits(t, "New", c, 0, 0)
			saysNothing(t, c)
			sameFacts(t, "Tick", c.Tick())
			sameFacts(t, "Hear", c.Hear(""))
			waits(t, "all that", c, 0, 0)
			saysNothing(t, c)
		}
	}
}

// What is agreed is the lesser one of what was asked and of the side's own, brought into their bounds.
func TestOwnParameters(t *testing.T) {
	ownN1 := []int{math.MinInt, -65536, -1, 0, 1, 2, 31, 64, 255, 256, 65534, 65535, 65536, 65537, 1 << 32, math.MaxInt}
	ownK := []int{math.MinInt, -8, -1, 0, 1, 2, 4, 6, 7, 8, 9, 256, 1 << 32, math.MaxInt}
	for _, n1 := range ownN1 {
		for _, k := range ownK {
			c := ctl.New(pn.Params{N1: n1, K: k}, 2, 1)
			for _, askedN1 := range []int{1, 2, 30, 31, 32, 64, 65, 65534, 65535} {
				for askedK := 1; askedK <= 7; askedK++ {
					agreed := asks(9, min(askedN1, brought(n1, 1, 65535)), min(askedK, brought(k, 1, 7)))
					sameFacts(t, "Hear", c.Hear(says(asks(9, askedN1, askedK))), fact(ctl.Heard, agreed))
					saysAll(t, c, asResponse(agreed))
				}
			}
		}
	}
}

// Of its own parameters none but N1 and K count.
func TestOwnParametersThatDoNotCount(t *testing.T) {
	odd := pn.Params{DLCI: 200, Frame: 9, CL: 9, Priority: 99, T1: -1, N1: 50, N2: 999, K: 3}
	c := ctl.New(odd, 2, 1)
	asked := msgs.Message{Kind: msgs.PN, Command: true, PN: pn.Params{DLCI: 63, Frame: 1, CL: 2, Priority: 63, T1: 255, N1: 51, N2: 0, K: 4}}
	agreed := asked
	agreed.PN.N1, agreed.PN.K = 50, 3
	sameFacts(t, "Hear", c.Hear(says(asked)), fact(ctl.Heard, agreed))
	saysAll(t, c, asResponse(agreed))
}

// A command that was said is to be said again behind so many ticks, and not ahead.
func TestTicksOfNew(t *testing.T) {
	for _, t2 := range []int{math.MinInt, -255, -1, 0, 1, 2, 3, 128, 254, 255, 256, 257, 511, 1 << 32, math.MaxInt} {
		c := said(t, t2, 255, bare(msgs.CLD))
		for try := range 3 {
			for n := range brought(t2, 1, 255) {
				if c.Has() {
					t.Fatalf("T2 %d, try %d: it is to be said again behind %d ticks", t2, try, n)
				}
				sameFacts(t, "Tick", c.Tick())
			}
			saysAll(t, c, bare(msgs.CLD))
		}
	}
}

// A command to which nothing comes is said so often and once more, and is Lost then, and not ahead.
func TestTriesOfNew(t *testing.T) {
	for _, n2 := range []int{math.MinInt, -255, -1, 0, 1, 2, 3, 128, 254, 255, 256, 257, 511, 1 << 32, math.MaxInt} {
		c := said(t, 1, n2, bare(msgs.CLD))
		for range brought(n2, 0, 255) {
			sameFacts(t, "Tick", c.Tick())
			waits(t, "Tick", c, 0, 1)
			saysAll(t, c, bare(msgs.CLD))
		}
		sameFacts(t, "Tick", c.Tick(), fact(ctl.Lost, bare(msgs.CLD)))
		waits(t, "Tick", c, 0, 0)
		saysNothing(t, c)
		sameFacts(t, "Tick", c.Tick())
	}
}

func TestSecondOneBesideTheFirst(t *testing.T) {
	one, two := newBoth(t, own, 1, 0), newBoth(t, pn.Params{N1: 5, K: 1}, 3, 2)
	one.ask(bare(msgs.FCon), asks(4, 100, 7))
	two.like("Ask of the first")
	two.ask(tells(4, true))
	one.next()
	one.hear(says(asks(4, 100, 7)) + says(bare(msgs.CLD)))
	two.hear(says(asks(4, 100, 7)))
	one.tick()
	two.like("Tick of the first")
	two.drain()
	one.like("Next of the second")
	one.drain()
	two.tick()
	one.tick()
	two.tick()
	two.tick()
	one.drain()
	two.drain()
}

// P22.2

func TestAskOfEachKind(t *testing.T) {
	for n := range 256 {
		kind := uint8(n)
		for _, command := range []bool{true, false} {
			m := msgs.Message{Kind: kind, Command: command}
			want := api.OK
			switch kind {
			case msgs.PN:
				m.PN = asks(3, 9, 2).PN
			case msgs.Unknown:
				m.Type = 3
			}
			if !command || kind < msgs.PN || kind > msgs.CLD {
				want = api.ErrArg
			}
			c := ctl.New(own, 2, 1)
			if e := c.Ask(m); e != want {
				t.Fatalf("Ask(%+v): %v, not %v", m, e, want)
			}
			if want == api.OK {
				waits(t, "Ask", c, 0, 1)
				saysAll(t, c, m)
			}
			saysNothing(t, c)
		}
	}
}

// mayNot are commands that may not be.
func mayNot() []msgs.Message {
	all := []msgs.Message{
		{Command: true}, {Kind: msgs.Unknown + 1, Command: true},
		{Kind: msgs.PN, Command: true}, asks(0, 9, 2), asks(64, 9, 2), asks(3, 0, 2), asks(3, 65536, 2), asks(3, 9, 0), asks(3, 9, 8),
		tells(64, false), tells(255, true),
		{Kind: msgs.MSC, Command: true, MSC: msc.Status{DLCI: 3, Break: 1}}, {Kind: msgs.MSC, Command: true, MSC: msc.Status{DLCI: 3, HasBreak: true, Break: 16}},
	}
	for _, m := range []msgs.Message{bare(msgs.FCon), bare(msgs.FCoff), bare(msgs.CLD), asks(3, 9, 2), tells(3, true), test("a")} {
		typed, statused := m, m
		typed.Type = 1
		all = append(all, typed)
		if m.Kind != msgs.Test {
			texted := m
			texted.Bytes = "a"
			all = append(all, texted)
		}
		if m.Kind != msgs.PN {
			parted := m
			parted.PN.K = 1
			all = append(all, parted)
		}
		if m.Kind != msgs.MSC {
			statused.MSC.DV = true
			all = append(all, statused)
		}
	}
	return all
}

// What may not be is no command, and changes nothing of what waits: neither of one of its Kind and channel, nor of another one.
func TestAskOfWhatMayNotBe(t *testing.T) {
	wait := []msgs.Message{asks(3, 9, 2), tells(3, true), bare(msgs.FCon), bare(msgs.FCoff), test("a"), bare(msgs.CLD)}
	wrong := append(mayNot(), test(strings.Repeat("b", 128)), asResponse(test("b")), asResponse(asks(3, 8, 1)), asResponse(tells(3, false)), asResponse(bare(msgs.CLD)),
		msgs.Message{Kind: msgs.NSC, Command: true, Type: 3}, msgs.Message{Kind: msgs.Unknown, Command: true, Type: 3, Bytes: "x"}, msgs.Message{})
	for _, m := range wrong {
		b := newBoth(t, own, 2, 1)
		b.ask(m)
		waits(t, "Ask", b.c, 0, 0)
		b.ask(wait...)
		b.next()
		b.next()
		if e := b.c.Ask(m); e != api.ErrArg {
			t.Fatalf("Ask(%+v): %v", m, e)
		}
		b.like("Ask of what may not be")
		b.drain()
		b.tick()
		b.tick()
		if e := b.c.Ask(m); e != api.ErrArg {
			t.Fatalf("Ask(%+v): %v", m, e)
		}
		saysAll(t, b.c, wait...)
	}
}

func TestAskOfTests(t *testing.T) {
	for _, n := range []int{0, 1, 2, 63, 126, 127, 128, 129, 255, 256, 1000, 70000} {
		m := test(strings.Repeat("\x00\xff\x7e\xf9", n/4+1)[:n])
		c := ctl.New(own, 2, 1)
		e := c.Ask(m)
		if n > 127 {
			if e != api.ErrArg {
				t.Fatalf("Ask of %d Bytes: %v", n, e)
			}
			waits(t, "Ask", c, 0, 0)
			saysNothing(t, c)
			continue
		}
		if e != api.OK {
			t.Fatalf("Ask of %d Bytes: %v", n, e)
		}
		if info, dlci, ok := c.Next(); info != "\x23"+string([]byte{byte(2*n + 1)})+m.Bytes || dlci != 0 || !ok {
			t.Fatalf("%d Bytes: said is %x, %d, %v", n, info, dlci, ok)
		}
	}
}

// The same command, asked again: m waits no more, but the other one does, behind all others, its tries none.
func askAgain(t *testing.T, m, other msgs.Message) {
	t.Helper()
	ahead, behind := bare(msgs.CLD), tells(60, true)

	toBeSaid := ctl.New(own, 2, 1)
	asked(t, toBeSaid, ahead, m, behind, other)
	waits(t, "Ask", toBeSaid, 0, 3)
	saysAll(t, toBeSaid, ahead, behind, other)

	wasSaid := said(t, 2, 1, ahead, m, behind)
	wasSaid.Tick()
	asked(t, wasSaid, other)
	waits(t, "Ask", wasSaid, 0, 3)
	saysAll(t, wasSaid, other)
	wasSaid.Tick()
	saysAll(t, wasSaid, ahead, behind)
	wasSaid.Tick()
	saysAll(t, wasSaid, other)
	sameFacts(t, "Tick", wasSaid.Tick(), fact(ctl.Lost, ahead), fact(ctl.Lost, behind))
	sameFacts(t, "Tick", wasSaid.Tick(), fact(ctl.Lost, other))
	waits(t, "Tick", wasSaid, 0, 0)

	again := said(t, 2, 1, ahead, m, behind)
	again.Tick()
	again.Tick()
	asked(t, again, other)
	waits(t, "Ask", again, 0, 3)
	saysAll(t, again, ahead, behind, other)
	again.Tick()
	sameFacts(t, "Tick", again.Tick(), fact(ctl.Lost, ahead), fact(ctl.Lost, behind))
	saysAll(t, again, other)
	again.Tick()
	sameFacts(t, "Tick", again.Tick(), fact(ctl.Lost, other))
	waits(t, "Tick", again, 0, 0)
}

func TestAskAgain(t *testing.T) {
	for _, m := range []msgs.Message{bare(msgs.FCon), bare(msgs.FCoff), test("a"), asks(3, 9, 2), tells(3, true)} {
		askAgain(t, m, m)
	}
	askAgain(t, test("a"), test(""))
	askAgain(t, test(""), test(strings.Repeat("z", 127)))
	askAgain(t, tells(3, true), tells(3, false))
	askAgain(t, tells(0, true), tells(0, false))
	askAgain(t, asks(3, 9, 2), asks(3, 10, 1))
	askAgain(t, asks(63, 9, 2), msgs.Message{Kind: msgs.PN, Command: true, PN: pn.Params{DLCI: 63, T1: 1, N1: 1, K: 7}})
}

// What was asked in the place of another one is answered by a response to itself alone, once it was said.
func TestAskAgainIsAnsweredAnew(t *testing.T) {
	c := said(t, 5, 1, tells(3, true))
	asked(t, c, tells(3, false))
	sameFacts(t, "Hear", c.Hear(says(asResponse(tells(3, false)))+says(asResponse(tells(3, true)))))
	saysAll(t, c, tells(3, false))
	sameFacts(t, "Hear", c.Hear(says(asResponse(tells(3, true)))))
	sameFacts(t, "Hear", c.Hear(says(asResponse(tells(3, false)))), fact(ctl.Answered, asResponse(tells(3, false))))
	waits(t, "Hear", c, 0, 0)
}

// The same status asked for again, though a response to the first one is under way, waits till it was said itself.
func TestSameAgainWaitsToBeSaid(t *testing.T) {
	for _, m := range []msgs.Message{bare(msgs.CLD), test("a"), asks(3, 9, 2), tells(3, true)} {
		c := said(t, 5, 1, m)
		asked(t, c, m)
		sameFacts(t, "Hear", c.Hear(says(asResponse(m))+refusal(m)))
		saysAll(t, c, m)
		sameFacts(t, "Hear", c.Hear(says(asResponse(m))), fact(ctl.Answered, asResponse(m)))
	}
}

// Of another Kind, or channel: all wait, and a second time in their places no more.
func TestAskOfUnlikeOnes(t *testing.T) {
	c := ctl.New(own, 2, 1)
	all := every()
	asked(t, c, all...)
	waits(t, "Ask", c, 0, 131)
	asked(t, c, all...)
	waits(t, "Ask", c, 0, 131)
	back := slices.Clone(all)
	slices.Reverse(back)
	asked(t, c, back...)
	waits(t, "Ask", c, 0, 131)
	saysAll(t, c, back...)
	waits(t, "Next", c, 0, 131)
}

// P22.3

func TestNextOfAnswersAndCommands(t *testing.T) {
	c := ctl.New(own, 2, 1)
	asked(t, c, asks(3, 9, 2), bare(msgs.FCon))
	c.Hear(says(tells(7, true)) + says(test("xy")))
	waits(t, "Hear", c, 2, 2)
	saysNext(t, c, asResponse(tells(7, true)), 0)
	c.Hear(says(bare(msgs.CLD)))
	saysNext(t, c, asResponse(test("xy")), 1)
	saysNext(t, c, asResponse(bare(msgs.CLD)), 2)
	waits(t, "Next", c, 0, 2)
	saysNext(t, c, asks(3, 9, 2), 3)
	c.Hear(says(asks(62, 70, 7)))
	saysNext(t, c, asResponse(asks(62, 64, 4)), 4)
	saysNext(t, c, bare(msgs.FCon), 5)
	saysNothing(t, c)
	waits(t, "Next", c, 0, 2)
}

func TestNextOfAnswersAlone(t *testing.T) {
	c := ctl.New(own, 2, 1)
	c.Hear(says(bare(msgs.FCoff)) + says(bare(msgs.FCoff)) + "\x0f\x01" + says(bare(msgs.FCon)))
	saysAll(t, c, asResponse(bare(msgs.FCoff)), asResponse(bare(msgs.FCoff)), msgs.Message{Kind: msgs.NSC, Type: 0x0F}, asResponse(bare(msgs.FCon)))
	waits(t, "Next", c, 0, 0)
	c.Tick()
	c.Tick()
	saysNothing(t, c)
}

// The channel that Next tells, of a command and of a response.
func TestChannelThatNextTells(t *testing.T) {
	channel := func(c *ctl.Ctl, m msgs.Message, want int) {
		t.Helper()
		if info, dlci, ok := c.Next(); info != says(m) || int(dlci) != want || !ok {
			t.Fatalf("said of %+v: %x, %d, %v, not %d", m, info, dlci, ok, want)
		}
	}
	c := ctl.New(own, 2, 1)
	for n := range 64 {
		d := uint8(n)
		all := []msgs.Message{tells(d, true), bare(msgs.FCon), test("\x07\x07"), bare(msgs.FCoff), bare(msgs.CLD)}
		if d > 0 {
			all = append(all, asks(d, 64, 4))
		}
		for _, m := range all {
			want := 0
			if m.Kind == msgs.PN || m.Kind == msgs.MSC {
				want = n
			}
			asked(t, c, m)
			channel(c, m, want)
			c.Hear(says(m))
			channel(c, asResponse(m), want)
			c.Hear("\x0f\x05\x05\x05")
			channel(c, msgs.Message{Kind: msgs.NSC, Type: 0x0F}, 0)
		}
	}
}

// What was said waits, and is not said once more ahead of its time.
func TestNextOfWhatWasSaid(t *testing.T) {
	b := newBoth(t, own, 3, 1)
	b.ask(bare(msgs.FCon), tells(1, true), asks(1, 5, 1))
	b.drain()
	for range 3 {
		saysNothing(t, b.c)
		waits(t, "Next", b.c, 0, 3)
	}
	b.tick()
	saysNothing(t, b.c)
	b.ask(bare(msgs.CLD))
	saysAll(t, b.c, bare(msgs.CLD))
}

// Wrong and odd things, at each call.

func TestNil(t *testing.T) {
	var c *ctl.Ctl
	for _, m := range append(append(mayNot(), every()...), msgs.Message{}) {
		if e := c.Ask(m); e != api.ErrNil {
			t.Fatalf("Ask(%+v): %v", m, e)
		}
		if e := c.Ask(asResponse(m)); e != api.ErrNil {
			t.Fatalf("Ask(%+v): %v", asResponse(m), e)
		}
	}
	for _, info := range []string{"", "\xa3\x01", "\xa1\x01", "\x0f\x01", "\x11\x03\x63", "\xa3"} {
		sameFacts(t, "Hear", c.Hear(info))
	}
	sameFacts(t, "Tick", c.Tick())
	saysNothing(t, c)
	waits(t, "all that", c, 0, 0)
}

// What New did not make is like what it makes of nothing.
func TestNotOfNew(t *testing.T) {
	b := &both{t, &ctl.Ctl{}, newPlain(pn.Params{}, 0, 0)}
	b.like("nothing")
	b.ask(bare(msgs.CLD), asks(5, 9, 3))
	b.hear(says(asks(5, 9, 3)) + says(test("q")))
	b.drain()
	waits(t, "Next", b.c, 0, 2)
	b.tick()
	waits(t, "Tick", b.c, 0, 0)
}
