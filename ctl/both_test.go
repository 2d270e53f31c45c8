package ctl_test

import (
	"slices"
	"testing"

	"partyline/api"
	"partyline/ctl"
	"partyline/msgs"
	"partyline/pn"
)

// both is a side, and the plain one beside it, of which the same is asked.
type both struct {
	t *testing.T
	c *ctl.Ctl
	p *plainCtl
}

func newBoth(t *testing.T, own pn.Params, t2, n2 int) *both {
	t.Helper()
	c := ctl.New(own, t2, n2)
	if c == nil {
		t.Fatal("New: nil")
	}
	b := &both{t, c, newPlain(own, t2, n2)}
	b.like("New")
	return b
}

// own are those of the chapter's examples.
var own = pn.Params{N1: 64, K: 4}

// like holds all that can be asked without changing anything against the plain one, twice: asking changes nothing.
func (b *both) like(what string) {
	b.t.Helper()
	for range 2 {
		waits(b.t, what, b.c, len(b.p.answers), len(b.p.commands))
		if b.c.Has() != b.p.has() {
			b.t.Fatalf("behind %s: Has is %v", what, b.c.Has())
		}
	}
}

func (b *both) ask(all ...msgs.Message) {
	b.t.Helper()
	for _, m := range all {
		if e, want := b.c.Ask(m), b.p.ask(m); e != want {
			b.t.Fatalf("Ask(%+v): %v, not %v", m, e, want)
		}
		b.like("Ask")
	}
}

func (b *both) next() (string, bool) {
	b.t.Helper()
	info, dlci, ok := b.c.Next()
	m, wantOK := b.p.next()
	want := ""
	if wantOK {
		want = says(m)
	}
	if info != want || int(dlci) != plainChannel(m) || ok != wantOK {
		b.t.Fatalf("Next: %x, %d, %v, not %x, %d, %v", info, dlci, ok, want, plainChannel(m), wantOK)
	}
	b.like("Next")
	return info, ok
}

// drain says all that there is to say.
func (b *both) drain() []string {
	b.t.Helper()
	var all []string
	for {
		info, ok := b.next()
		if !ok {
			return all
		}
		all = append(all, info)
	}
}

func (b *both) hear(info string) []ctl.Fact {
	b.t.Helper()
	facts := b.c.Hear(info)
	sameFacts(b.t, "Hear", facts, b.p.hear(info)...)
	b.like("Hear")
	return facts
}

func (b *both) tick() []ctl.Fact {
	b.t.Helper()
	facts := b.c.Tick()
	sameFacts(b.t, "Tick", facts, b.p.tick()...)
	b.like("Tick")
	return facts
}

func sameFacts(t *testing.T, what string, got []ctl.Fact, want ...ctl.Fact) {
	t.Helper()
	if !slices.Equal(got, want) {
		t.Fatalf("%s: %+v, not %+v", what, got, want)
	}
}

// saysAll holds what is said against messages that are written in the test, one behind the other, with nothing behind.
func saysAll(t *testing.T, c *ctl.Ctl, all ...msgs.Message) {
	t.Helper()
	for i, m := range all {
		saysNext(t, c, m, i)
	}
	saysNothing(t, c)
}

func saysNext(t *testing.T, c *ctl.Ctl, m msgs.Message, i int) {
	t.Helper()
	if !c.Has() {
		t.Fatalf("%d: nothing to say, not %+v", i, m)
	}
	info, dlci, ok := c.Next()
	if info != says(m) || int(dlci) != plainChannel(m) || !ok {
		t.Fatalf("%d: said is %x, %d, %v, not %x, %d", i, info, dlci, ok, says(m), plainChannel(m))
	}
}

func saysNothing(t *testing.T, c *ctl.Ctl) {
	t.Helper()
	if info, dlci, ok := c.Next(); info != "" || dlci != 0 || ok || c.Has() {
		t.Fatalf("said is %x, %d, %v, not nothing; Has is %v", info, dlci, ok, c.Has())
	}
}

func waits(t *testing.T, what string, c *ctl.Ctl, answers, commands int) {
	t.Helper()
	if a, n := c.Waits(); a != answers || n != commands {
		t.Fatalf("behind %s wait %d answers and %d commands, not %d and %d", what, a, n, answers, commands)
	}
}

func asked(t *testing.T, c *ctl.Ctl, all ...msgs.Message) {
	t.Helper()
	for _, m := range all {
		if e := c.Ask(m); e != api.OK {
			t.Fatalf("Ask(%+v): %v", m, e)
		}
	}
}

// said makes a side of which these commands were said, and nothing else waits.
func said(t *testing.T, t2, n2 int, all ...msgs.Message) *ctl.Ctl {
	t.Helper()
	c := ctl.New(own, t2, n2)
	asked(t, c, all...)
	saysAll(t, c, all...)
	return c
}

func fact(kind uint8, m msgs.Message) ctl.Fact { return ctl.Fact{Kind: kind, Message: m} }
