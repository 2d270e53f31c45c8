package arq_test

import (
	"testing"

	"partyline/api"
	"partyline/arq"
)

// plain is a side as the chapter tells it, by counts that do not go round: which of all that was pushed is at V(A), is to be sent next, was sent ever; and how many were taken.
type plain struct {
	k, n2, t1                                    int
	pushed                                       []string
	base, sent, high, got                        int
	due, final, reject, poll                     bool
	peerBusy, busy, rejects, asks, wants, failed bool
	tries, left                                  int
}

func (p *plain) out() int   { return p.sent - p.base }
func (p *plain) waits() int { return len(p.pushed) - p.base }

func (p *plain) counted(anew bool) {
	if p.failed {
		p.left = 0
		return
	}
	if p.out() > 0 || p.asks || p.wants || (p.peerBusy && p.waits() > 0) {
		if p.left == 0 || anew {
			p.left = p.t1
		}
	} else {
		p.left = 0
	}
}

func (p *plain) push(info string) api.Errno {
	if p.failed {
		return api.ErrState
	}
	if p.waits() == p.k {
		return api.ErrLimit
	}
	p.pushed = append(p.pushed, info)
	p.counted(false)
	return api.OK
}

func (p *plain) next() (f api.Frame, ok bool) {
	if p.failed {
		return api.Frame{}, false
	}
	vr := uint8(p.got % 8)
	if p.due {
		f = api.Frame{Kind: api.RR, NR: vr, PF: p.final}
		if p.reject {
			f.Kind = api.REJ
		}
		if p.busy {
			f.Kind = api.RNR
		}
		p.due, p.final, p.reject = false, false, false
		p.counted(false)
		return f, true
	}
	if p.poll {
		f = api.Frame{Command: true, Kind: api.RR, NR: vr, PF: true}
		if p.busy {
			f.Kind = api.RNR
		}
		p.poll = false
		p.counted(false)
		return f, true
	}
	if !p.peerBusy && !p.asks && p.sent < len(p.pushed) {
		f = api.Frame{Command: true, Kind: api.I, NS: uint8(p.sent % 8), NR: vr, Info: p.pushed[p.sent]}
		p.sent++
		if p.sent > p.high {
			p.high = p.sent
		}
		p.counted(false)
		return f, true
	}
	return api.Frame{}, false
}

func (p *plain) has() bool {
	copied := *p
	_, ok := copied.next()
	return ok
}

// to is the count from V(A) on, up to and with high, of which the number is left.
func (p *plain) to(nr uint8) int {
	for n := p.base; n <= p.high; n++ {
		if n%8 == int(nr)%8 {
			return n
		}
	}
	return -1
}

func (p *plain) hear(f api.Frame) arq.Act {
	if p.failed || f.Kind != api.I && f.Kind != api.RR && f.Kind != api.RNR && f.Kind != api.REJ {
		return arq.Act{}
	}
	to := p.to(f.NR)
	if to < 0 {
		p.failed = true
		p.counted(false)
		return arq.Act{Failed: true}
	}
	act := arq.Act{Acked: to - p.base}
	p.base = to
	if p.sent < to {
		p.sent = to
	}
	if act.Acked > 0 {
		p.tries = 0
	}
	if f.Kind == api.RNR {
		p.peerBusy = true
		p.sent = p.base
	}
	if f.Kind == api.RR || f.Kind == api.REJ {
		p.peerBusy = false
	}
	if f.Kind == api.REJ {
		p.sent = p.base
	}
	if !f.Command && f.PF && p.asks {
		p.asks, p.poll, p.tries = false, false, 0
		p.sent = p.base
	}
	if f.Kind == api.I {
		p.inform(f, &act)
	}
	if f.Command && f.PF {
		p.due, p.final = true, true
	}
	p.counted(act.Acked > 0)
	return act
}

func (p *plain) inform(f api.Frame, act *arq.Act) {
	is := int(f.NS)%8 == p.got%8
	if is && !p.busy {
		act.Info, act.Taken = f.Info, true
		p.got++
		p.rejects, p.reject, p.due = false, false, true
	}
	if is && p.busy {
		p.due = true
	}
	if !is && !p.rejects && !p.busy {
		p.rejects, p.due, p.reject = true, true, true
	}
}

func (p *plain) setBusy(busy bool) {
	if !p.failed && p.busy != busy {
		p.busy, p.due = busy, true
		p.counted(false)
	}
}

func (p *plain) setWant(want bool) {
	if !p.failed {
		p.wants = want
		p.counted(false)
	}
}

func (p *plain) tick() arq.Act {
	if p.failed || p.left == 0 {
		return arq.Act{}
	}
	p.left--
	if p.left > 0 {
		return arq.Act{}
	}
	if p.out() > 0 || p.asks {
		p.tries++
		if p.tries > p.n2 {
			p.failed = true
			return arq.Act{Failed: true}
		}
	}
	p.asks, p.poll, p.left = true, true, p.t1
	return arq.Act{}
}

func (p *plain) view() arq.View {
	return arq.View{
		VA: uint8(p.base % 8), VS: uint8(p.sent % 8), VR: uint8(p.got % 8), Waits: p.waits(), Out: p.out(), Tries: p.tries, Left: p.left,
		PeerBusy: p.peerBusy, Busy: p.busy, Rejects: p.rejects, Asks: p.asks, Wants: p.wants, Failed: p.failed,
	}
}

// both is a side, and the plain one of which the same is asked, so that each answer is held against the other one's.
type both struct {
	t *testing.T
	a *arq.Arq
	p *plain
}

func newBoth(t *testing.T, k, n2, t1 int) *both {
	b := &both{t, arq.New(k, n2, t1), &plain{k: k, n2: n2, t1: t1}}
	b.same("New", arq.Act{}, arq.Act{})
	return b
}

func (b *both) same(what string, got, want arq.Act) {
	b.t.Helper()
	if got != want {
		b.t.Fatalf("%s: %+v, not %+v", what, got, want)
	}
	if v, w := b.a.View(), b.p.view(); v != w {
		b.t.Fatalf("%s: the side is %+v, not %+v", what, v, w)
	}
	if b.a.Has() != b.p.has() {
		b.t.Fatalf("%s: Has is %v", what, b.a.Has())
	}
}

func (b *both) push(info string) {
	b.t.Helper()
	if e, w := b.a.Push(info), b.p.push(info); e != w {
		b.t.Fatalf("Push(%q): %v, not %v", info, e, w)
	}
	b.same("Push", arq.Act{}, arq.Act{})
}

func (b *both) next() (api.Frame, bool) {
	b.t.Helper()
	f, ok := b.a.Next()
	w, wok := b.p.next()
	if f != w || ok != wok {
		b.t.Fatalf("Next: %+v %v, not %+v %v", f, ok, w, wok)
	}
	b.same("Next", arq.Act{}, arq.Act{})
	return f, ok
}

func (b *both) hear(f api.Frame) arq.Act {
	b.t.Helper()
	act := b.a.Hear(f)
	b.same("Hear", act, b.p.hear(f))
	return act
}

func (b *both) setBusy(busy bool) {
	b.t.Helper()
	b.a.SetBusy(busy)
	b.p.setBusy(busy)
	b.same("SetBusy", arq.Act{}, arq.Act{})
}

func (b *both) setWant(want bool) {
	b.t.Helper()
	b.a.SetWant(want)
	b.p.setWant(want)
	b.same("SetWant", arq.Act{}, arq.Act{})
}

func (b *both) tick() arq.Act {
	b.t.Helper()
	act := b.a.Tick()
	b.same("Tick", act, b.p.tick())
	return act
}
