package ctl_test

import (
	"slices"
	"strings"
	"testing"
	"unsafe"

	"partyline/api"
	"partyline/ctl"
	"partyline/msgs"
)

// P22.6

// lying is a text that lies in bytes, which may be changed behind its back.
func lying(s string) ([]byte, string) {
	b := []byte(s + "behind")
	return b, unsafe.String(unsafe.SliceData(b), len(s))
}

func scribble(data []byte) {
	for i := range data {
		data[i] = '#'
	}
}

// overlap asks whether two texts share memory.
func overlap(a, b string) bool {
	from, other := uintptr(unsafe.Pointer(unsafe.StringData(a))), uintptr(unsafe.Pointer(unsafe.StringData(b)))
	return a != "" && b != "" && from < other+uintptr(len(b)) && other < from+uintptr(len(a))
}

func TestWhatIsAskedIsOnlyReadAndNotKept(t *testing.T) {
	for _, n := range []int{1, 2, 50, 127, 128, 500} {
		was := strings.Repeat("text", n)[:n]
		data, bytes := lying(was)
		c := ctl.New(own, 1, 0)
		m := test(bytes)
		e := c.Ask(m)
		if string(data) != was+"behind" || m != test(was) {
			t.Fatalf("%d Bytes: what was handed in is changed", n)
		}
		scribble(data)
		if n > 127 {
			if e != api.ErrArg {
				t.Fatalf("Ask of %d Bytes: %v", n, e)
			}
			continue
		}
		saysAll(t, c, test(was))
		sameFacts(t, "Tick", c.Tick(), fact(ctl.Lost, test(was)))
		if strings.Trim(string(data), "#") != "" {
			t.Fatalf("%d Bytes: what was handed in is changed later", n)
		}
	}
}

func TestWhatIsHeardIsOnlyReadAndNotKept(t *testing.T) {
	c := ctl.New(own, 5, 0)
	asked(t, c, test("answered"), bare(msgs.CLD))
	saysAll(t, c, test("answered"), bare(msgs.CLD))
	was := says(test("heard")) + says(asks(3, 99, 2)) + says(asResponse(test("answered"))) + "\x0f\x07abc" + refusal(bare(msgs.CLD)) + "\xa3"
	want := []ctl.Fact{fact(ctl.Heard, test("heard")), fact(ctl.Heard, asks(3, 64, 2)), fact(ctl.Answered, asResponse(test("answered"))), fact(ctl.Refused, bare(msgs.CLD))}
	data, info := lying(was)
	facts := c.Hear(info)
	if string(data) != was+"behind" {
		t.Fatal("what was handed in is changed")
	}
	scribble(data)
	sameFacts(t, "Hear", facts, want...)
	saysAll(t, c, asResponse(test("heard")), asResponse(asks(3, 64, 2)), msgs.Message{Kind: msgs.NSC, Type: 0x0F})
	c.Tick()
	sameFacts(t, "Hear", facts, want...)
	if strings.Trim(string(data), "#") != "" {
		t.Fatal("what was handed in is changed later")
	}
}

// fill writes other facts into a list, up to its end in memory.
func fill(facts []ctl.Fact) {
	whole := facts[:cap(facts)]
	for i := range whole {
		whole[i] = fact(9, msgs.Message{Kind: 9, Command: true, Type: 9, Bytes: "written"})
	}
}

// A list of facts may be written into, with nothing changed for the side, and for other lists.
func TestFactsAreNewMemory(t *testing.T) {
	b := newBoth(t, own, 2, 1)
	b.ask(some()...)
	for n := range 40 {
		b.next()
		b.next()
		first := b.hear(says(test("one")) + says(bare(msgs.CLD)) + says(asResponse(some()[n%6])))
		second := b.hear(says(tells(1, true)) + refusal(some()[(n+1)%6]) + refusal(some()[(n+3)%6]))
		third := b.tick()
		kept := slices.Clone(second)
		fill(first)
		fill(third)
		if !slices.Equal(second, kept) {
			t.Fatalf("what was answered is shared: %+v", second)
		}
		fill(second)
		fourth := b.tick()
		kept = slices.Clone(fourth)
		b.ask(some()[n%6], some()[(n+2)%6], test("two"))
		b.drain()
		b.hear(says(asResponse(some()[(n+2)%6])) + says(bare(msgs.FCon)))
		b.tick()
		if !slices.Equal(fourth, kept) {
			t.Fatalf("what was answered is another later: %+v", fourth)
		}
		fill(fourth)
	}
}

// Likewise the lists of what is lost, each of several.
func TestListsOfTheLostAreNewMemory(t *testing.T) {
	c := ctl.New(own, 1, 0)
	lose := func(all ...msgs.Message) []ctl.Fact {
		asked(t, c, all...)
		saysAll(t, c, all...)
		return c.Tick()
	}
	first := lose(bare(msgs.FCon), test("one"), bare(msgs.CLD))
	second := lose(tells(1, true), test("two"))
	sameFacts(t, "Tick", first, fact(ctl.Lost, bare(msgs.FCon)), fact(ctl.Lost, test("one")), fact(ctl.Lost, bare(msgs.CLD)))
	fill(first)
	sameFacts(t, "Tick", second, fact(ctl.Lost, tells(1, true)), fact(ctl.Lost, test("two")))
	asked(t, c, bare(msgs.FCoff), test("three"))
	fill(second)
	saysAll(t, c, bare(msgs.FCoff), test("three"))
	sameFacts(t, "Tick", c.Tick(), fact(ctl.Lost, bare(msgs.FCoff)), fact(ctl.Lost, test("three")))
}

// All texts that a side ever answers lie apart from each other, and from what was handed in.
func TestTextsAreNewMemory(t *testing.T) {
	c := ctl.New(own, 1, 3)
	m := test("a command of its own")
	all := []string{m.Bytes}
	keep := func(facts []ctl.Fact) {
		for _, f := range facts {
			all = append(all, f.Message.Bytes)
		}
	}
	say := func() {
		for {
			info, _, ok := c.Next()
			if !ok {
				return
			}
			all = append(all, info)
		}
	}
	for n := range 12 {
		asked(t, c, m, asks(5, 9, 2), bare(msgs.FCon))
		say()
		heard := says(test("of the other side")) + says(test("again")) + "\x0f\x07xyz"
		switch n % 3 {
		case 0:
			heard += says(asResponse(m))
		case 1:
			heard += refusal(m)
		}
		all = append(all, heard)
		keep(c.Hear(heard))
		for range 5 {
			keep(c.Tick())
			say()
		}
	}
	for i, a := range all {
		for _, other := range all[:i] {
			if overlap(a, other) {
				t.Fatalf("%q and %q share memory", a, other)
			}
		}
	}
}

// What is said may be changed by whom it was given, and is said again as it was.
func TestWhatIsSaidIsNotTheSides(t *testing.T) {
	for _, m := range []msgs.Message{test("as it was"), test(""), asks(5, 9, 2), tells(5, true), bare(msgs.CLD)} {
		c := ctl.New(own, 1, 2)
		asked(t, c, m)
		for range 3 {
			info, _, _ := c.Next()
			if info != says(m) {
				t.Fatalf("said is %x, not %x", info, says(m))
			}
			scribble(unsafe.Slice(unsafe.StringData(info), len(info)))
			if !c.Has() {
				c.Tick()
			}
		}
		waits(t, "Tick", c, 0, 0)
	}
	c := ctl.New(own, 1, 2)
	facts := c.Hear(says(test("heard")))
	bytes := facts[0].Message.Bytes
	scribble(unsafe.Slice(unsafe.StringData(bytes), len(bytes)))
	saysAll(t, c, asResponse(test("heard")))
}
