package arq_test

import (
	"math"
	"math/rand"
	"slices"
	"strconv"
	"strings"
	"testing"

	"partyline/api"
	"partyline/arq"
)

// info, and those below it, are the frames that a side may send.
func info(ns, nr uint8, text string) api.Frame {
	return api.Frame{Command: true, Kind: api.I, NS: ns, NR: nr, Info: text}
}

func answer(kind, nr uint8) api.Frame { return api.Frame{Kind: kind, NR: nr} }

func final(kind, nr uint8) api.Frame { return api.Frame{Kind: kind, NR: nr, PF: true} }

func poll(kind, nr uint8) api.Frame { return api.Frame{Command: true, Kind: kind, NR: nr, PF: true} }

// tells asks the side for just these frames, and for none behind them.
func tells(t *testing.T, a *arq.Arq, want ...api.Frame) {
	t.Helper()
	for i, w := range want {
		if !a.Has() {
			t.Fatalf("frame %d: Has is false, but there is %+v", i, w)
		}
		if f, ok := a.Next(); !ok || f != w {
			t.Fatalf("frame %d: %+v %v, not %+v", i, f, ok, w)
		}
	}
	if a.Has() {
		t.Fatal("Has is true behind the last one")
	}
	if f, ok := a.Next(); ok || f != (api.Frame{}) {
		t.Fatalf("one more: %+v %v", f, ok)
	}
}

func pushes(t *testing.T, a *arq.Arq, texts ...string) {
	t.Helper()
	for _, x := range texts {
		if e := a.Push(x); e != api.OK {
			t.Fatalf("Push(%q): %v", x, e)
		}
	}
}

func hears(t *testing.T, a *arq.Arq, f api.Frame, want arq.Act) {
	t.Helper()
	if got := a.Hear(f); got != want {
		t.Fatalf("Hear(%+v): %+v, not %+v", f, got, want)
	}
}

func looks(t *testing.T, a *arq.Arq, want arq.View) {
	t.Helper()
	if got := a.View(); got != want {
		t.Fatalf("%+v, not %+v", got, want)
	}
}

func ticks(t *testing.T, a *arq.Arq, n int) {
	t.Helper()
	for i := range n {
		if act := a.Tick(); act != (arq.Act{}) {
			t.Fatalf("tick %d: %+v", i, act)
		}
	}
}

// fails is the tick at which a side fails.
func fails(t *testing.T, a *arq.Arq) {
	t.Helper()
	if act := a.Tick(); act != (arq.Act{Failed: true}) {
		t.Fatalf("%+v, but it should fail", act)
	}
}

// sends is a side of which so many are out, from V(A) on, which is va.
func sends(t *testing.T, k, n2, t1 int, va uint8, n int) *arq.Arq {
	t.Helper()
	a := arq.New(k, n2, t1)
	for i := range va {
		pushes(t, a, "gone")
		tells(t, a, info(i%8, 0, "gone"))
		hears(t, a, answer(api.RR, (i+1)%8), arq.Act{Acked: 1})
	}
	for i := range n {
		pushes(t, a, strconv.Itoa(i))
		tells(t, a, info((va+uint8(i))%8, 0, strconv.Itoa(i)))
	}
	return a
}

// takes is a side that took so many.
func takes(t *testing.T, n uint8) *arq.Arq {
	t.Helper()
	a := arq.New(7, 3, 5)
	for i := range n {
		hears(t, a, info(i%8, 0, "x"), arq.Act{Info: "x", Taken: true})
		tells(t, a, answer(api.RR, (i+1)%8))
	}
	return a
}

// P15.1

func TestNewHasBounds(t *testing.T) {
	within := func(n, least, most int) bool { return n >= least && n <= most }
	for _, k := range []int{math.MinInt, -1 << 32, -249, -1, 0, 1, 2, 6, 7, 8, 9, 257, 1<<32 + 1, math.MaxInt} {
		for _, n2 := range []int{math.MinInt, -1 << 32, -1, 0, 1, 254, 255, 256, 257, 1 << 32, math.MaxInt} {
			for _, t1 := range []int{math.MinInt, -1<<32 + 1, -1, 0, 1, 2, 254, 255, 256, 257, 1<<32 + 1, math.MaxInt} {
				may := within(k, 1, 7) && within(n2, 0, 255) && within(t1, 1, 255)
				if a := arq.New(k, n2, t1); (a != nil) != may {
					t.Errorf("New(%d, %d, %d): %v", k, n2, t1, a)
				}
			}
		}
	}
}

func TestNewHasNothingAtFirst(t *testing.T) {
	for k := 1; k <= 7; k++ {
		a := arq.New(k, 0, 1)
		looks(t, a, arq.View{})
		tells(t, a)
		ticks(t, a, 600)
		looks(t, a, arq.View{})
	}
}

func TestNewKeepsK(t *testing.T) {
	for k := 1; k <= 7; k++ {
		a := arq.New(k, 3, 5)
		for i := range k {
			pushes(t, a, strconv.Itoa(i))
		}
		for range 3 {
			if e := a.Push("one more"); e != api.ErrLimit {
				t.Errorf("k %d: one more: %v", k, e)
			}
		}
		looks(t, a, arq.View{Waits: k})
	}
}

func TestNewKeepsN2AndT1(t *testing.T) {
	for _, n2 := range []int{0, 1, 2, 254, 255} {
		for _, t1 := range []int{1, 2, 254, 255} {
			a := arq.New(1, n2, t1)
			pushes(t, a, "x")
			tells(t, a, info(0, 0, "x"))
			for try := range n2 {
				ticks(t, a, t1)
				looks(t, a, arq.View{VS: 1, Waits: 1, Out: 1, Tries: try + 1, Left: t1, Asks: true})
				tells(t, a, poll(api.RR, 0))
			}
			ticks(t, a, t1-1)
			fails(t, a)
		}
	}
}

func TestANilSide(t *testing.T) {
	var a *arq.Arq
	for range 2 {
		if e := a.Push("x"); e != api.ErrNil {
			t.Errorf("Push: %v", e)
		}
		tells(t, a)
		hears(t, a, info(0, 0, "x"), arq.Act{})
		hears(t, a, poll(api.RR, 3), arq.Act{})
		hears(t, a, api.Frame{}, arq.Act{})
		a.SetBusy(true)
		a.SetWant(true)
		ticks(t, a, 3)
		looks(t, a, arq.View{})
	}
}

func TestASideThatNewDidNotMake(t *testing.T) {
	var a arq.Arq
	looks(t, &a, arq.View{})
	if e := a.Push("x"); e != api.ErrLimit {
		t.Errorf("Push: %v", e)
	}
	a.SetWant(true)
	ticks(t, &a, 3)
	a.SetBusy(true)
	tells(t, &a, answer(api.RNR, 0))
	hears(t, &a, poll(api.RR, 0), arq.Act{})
	tells(t, &a, final(api.RNR, 0))
	hears(t, &a, answer(api.RR, 1), arq.Act{Failed: true})
}

// P15.2

func TestPushPutsBehindTheOthers(t *testing.T) {
	a := arq.New(7, 3, 5)
	long := strings.Repeat("\x00\xff", 5000)
	pushes(t, a, "b", "a", "", "b", long, "", "z")
	looks(t, a, arq.View{Waits: 7})
	tells(t, a, info(0, 0, "b"), info(1, 0, "a"), info(2, 0, ""), info(3, 0, "b"), info(4, 0, long), info(5, 0, ""), info(6, 0, "z"))
}

func TestPushOneMoreThanK(t *testing.T) {
	a := arq.New(2, 3, 5)
	pushes(t, a, "a", "b")
	if e := a.Push("c"); e != api.ErrLimit {
		t.Fatal(e)
	}
	tells(t, a, info(0, 0, "a"), info(1, 0, "b"))
	if e := a.Push("c"); e != api.ErrLimit {
		t.Fatalf("what is out waits still: %v", e)
	}
	hears(t, a, answer(api.RR, 1), arq.Act{Acked: 1})
	pushes(t, a, "d")
	if e := a.Push("e"); e != api.ErrLimit {
		t.Fatal(e)
	}
	tells(t, a, info(2, 0, "d"))
}

func TestPushToOneThatFailed(t *testing.T) {
	for _, n := range []int{1, 2} {
		a := sends(t, 2, 0, 1, 0, n)
		fails(t, a)
		if e := a.Push("x"); e != api.ErrState {
			t.Errorf("%d wait: %v", n, e)
		}
		looks(t, a, arq.View{VS: uint8(n), Waits: n, Out: n, Tries: 1, Failed: true})
	}
}

// P15.3

func TestNextTellsAnAnswerAheadOfAPollAheadOfWhatWaits(t *testing.T) {
	a := arq.New(7, 3, 1)
	a.SetWant(true)
	ticks(t, a, 1)
	pushes(t, a, "a")
	hears(t, a, info(0, 0, "x"), arq.Act{Info: "x", Taken: true})
	tells(t, a, answer(api.RR, 1), poll(api.RR, 1))
	hears(t, a, final(api.RR, 0), arq.Act{})
	hears(t, a, info(1, 0, "y"), arq.Act{Info: "y", Taken: true})
	tells(t, a, answer(api.RR, 2), info(0, 2, "a"))
}

func TestNextAnswers(t *testing.T) {
	for _, x := range []struct {
		busy, reject, bit bool
		want              api.Frame
	}{
		{false, false, true, final(api.RR, 0)},
		{false, true, false, answer(api.REJ, 0)},
		{false, true, true, final(api.REJ, 0)},
		{true, false, false, answer(api.RNR, 0)},
		{true, false, true, final(api.RNR, 0)},
		{true, true, false, answer(api.RNR, 0)},
		{true, true, true, final(api.RNR, 0)},
	} {
		a := arq.New(7, 3, 5)
		if x.reject {
			hears(t, a, info(1, 0, "late"), arq.Act{})
		}
		if x.busy {
			a.SetBusy(true)
		}
		if x.bit {
			hears(t, a, poll(api.RR, 0), arq.Act{})
		}
		tells(t, a, x.want)
		hears(t, a, poll(api.RR, 0), arq.Act{})
		again := final(api.RR, 0)
		if x.busy {
			again.Kind = api.RNR
		}
		tells(t, a, again) // the reject is due no more, though it rejects still
	}
}

func TestNextPolls(t *testing.T) {
	for vr := range uint8(16) {
		for _, busy := range []bool{false, true} {
			a := takes(t, vr)
			a.SetBusy(busy)
			a.Next()
			a.SetWant(true)
			ticks(t, a, 5)
			want := poll(api.RR, vr%8)
			if busy {
				want.Kind = api.RNR
			}
			tells(t, a, want)
		}
	}
}

func TestNextSendsWhatWaitsRoundBehindSeven(t *testing.T) {
	a := arq.New(7, 3, 5)
	for i := range 40 {
		text := strconv.Itoa(i)
		pushes(t, a, text)
		tells(t, a, info(uint8(i%8), 0, text))
		if i > 3 {
			hears(t, a, answer(api.RR, uint8((i-3)%8)), arq.Act{Acked: min(i-3, 1)})
		}
	}
}

func TestNextSendsNothingToAPeerThatIsBusy(t *testing.T) {
	a := arq.New(7, 3, 5)
	pushes(t, a, "a", "b")
	hears(t, a, answer(api.RNR, 0), arq.Act{})
	tells(t, a)
	pushes(t, a, "c")
	tells(t, a)
	hears(t, a, poll(api.RNR, 0), arq.Act{})
	tells(t, a, final(api.RR, 0))
	hears(t, a, answer(api.RR, 0), arq.Act{})
	tells(t, a, info(0, 0, "a"), info(1, 0, "b"), info(2, 0, "c"))
}

func TestNextSendsNothingWhileItAsks(t *testing.T) {
	a := sends(t, 7, 3, 2, 0, 1)
	pushes(t, a, "b")
	a.Next()
	pushes(t, a, "c")
	ticks(t, a, 2)
	tells(t, a, poll(api.RR, 0))
	hears(t, a, answer(api.RR, 1), arq.Act{Acked: 1})
	tells(t, a)
	hears(t, a, final(api.RR, 1), arq.Act{})
	tells(t, a, info(1, 0, "b"), info(2, 0, "c"))
}

func TestNextOfOneThatFailedTellsNothing(t *testing.T) {
	a := arq.New(7, 0, 1)
	pushes(t, a, "a", "b")
	a.SetWant(true)
	ticks(t, a, 1)
	hears(t, a, poll(api.RR, 0), arq.Act{})
	if !a.Has() {
		t.Error("an answer and a poll are due")
	}
	fails(t, a)
	tells(t, a)
}

func TestHasChangesNothing(t *testing.T) {
	a := arq.New(7, 3, 5)
	pushes(t, a, "a")
	hears(t, a, poll(api.RR, 0), arq.Act{})
	for range 5 {
		if !a.Has() {
			t.Fatal("Has is false")
		}
	}
	tells(t, a, final(api.RR, 0), info(0, 0, "a"))
	for range 5 {
		if a.Has() {
			t.Fatal("Has is true")
		}
	}
	looks(t, a, arq.View{VS: 1, Waits: 1, Out: 1, Left: 5})
}

// P15.4

func TestHearNothingOfOtherKinds(t *testing.T) {
	for kind := range 256 {
		if uint8(kind) >= api.I && uint8(kind) <= api.REJ {
			continue
		}
		for _, bits := range []int{0, 1, 2, 3} {
			for nr := range uint8(9) {
				a := sends(t, 7, 3, 1, 0, 2)
				ticks(t, a, 1)
				was := a.View()
				hears(t, a, api.Frame{Kind: uint8(kind), Command: bits&1 > 0, PF: bits&2 > 0, NS: nr, NR: nr, Info: "x"}, arq.Act{})
				looks(t, a, was)
				tells(t, a, poll(api.RR, 0))
			}
		}
	}
}

func TestHearAcknowledgesFromVAOnUpToHigh(t *testing.T) {
	for va := range uint8(16) {
		for n := range 8 {
			for nr := range uint8(8) {
				a := sends(t, 7, 3, 5, va, n)
				way := (int(nr) - int(va) + 16) % 8
				if way > n {
					hears(t, a, answer(api.RR, nr), arq.Act{Failed: true})
					looks(t, a, arq.View{VA: va % 8, VS: (va + uint8(n)) % 8, Waits: n, Out: n, Failed: true})
					continue
				}
				hears(t, a, answer(api.RR, nr), arq.Act{Acked: way})
				want := arq.View{VA: nr, VS: (va + uint8(n)) % 8, Waits: n - way, Out: n - way}
				if n > way {
					want.Left = 5
				}
				looks(t, a, want)
			}
		}
	}
}

func TestHearOfNumbersAboveSeven(t *testing.T) {
	for nr := range 256 {
		a := sends(t, 7, 3, 5, 6, 4)
		way := (nr + 2) % 8
		if way > 4 {
			hears(t, a, answer(api.RR, uint8(nr)), arq.Act{Failed: true})
			continue
		}
		hears(t, a, answer(api.RR, uint8(nr)), arq.Act{Acked: way})
		if v := a.View(); v.VA != uint8(nr%8) {
			t.Errorf("N(R) %d: V(A) %d", nr, v.VA)
		}
	}
	for ns := range 256 {
		a := takes(t, 5)
		f := info(uint8(ns), 0, "y")
		if ns%8 == 5 {
			hears(t, a, f, arq.Act{Info: "y", Taken: true})
			tells(t, a, answer(api.RR, 6))
			continue
		}
		hears(t, a, f, arq.Act{})
		tells(t, a, answer(api.REJ, 5))
	}
}

func TestHearOfAnyKindAcknowledgesAndFails(t *testing.T) {
	for _, kind := range []uint8{api.I, api.RR, api.RNR, api.REJ} {
		for _, bits := range []int{0, 1, 2, 3} {
			f := api.Frame{Kind: kind, Command: bits&1 > 0, PF: bits&2 > 0, NS: 4, NR: 2, Info: "x"}
			a := sends(t, 7, 3, 5, 0, 3)
			hears(t, a, f, arq.Act{Acked: 2})
			if v := a.View(); v.VA != 2 || v.Waits != 1 {
				t.Errorf("%+v: %+v", f, v)
			}
			f.NS, f.NR = 0, 4
			b := sends(t, 7, 3, 5, 0, 3)
			hears(t, b, f, arq.Act{Failed: true})
			looks(t, b, arq.View{VS: 3, Waits: 3, Out: 3, Failed: true})
			tells(t, b)
		}
	}
}

func TestHearAcknowledgesWhatWasSentInAnElderGo(t *testing.T) {
	for _, kind := range []uint8{api.REJ, api.RNR} {
		a := sends(t, 7, 3, 5, 6, 4)
		hears(t, a, answer(kind, 6), arq.Act{})
		looks(t, a, arq.View{VA: 6, VS: 6, Waits: 4, PeerBusy: kind == api.RNR, Left: left(kind == api.RNR)})
		hears(t, a, answer(api.RR, 6), arq.Act{})
		a.Next()
		looks(t, a, arq.View{VA: 6, VS: 7, Waits: 4, Out: 1, Left: 5})
		hears(t, a, answer(api.RR, 1), arq.Act{Acked: 3})
		looks(t, a, arq.View{VA: 1, VS: 1, Waits: 1})
		pushes(t, a, "new")
		hears(t, a, answer(api.RR, 2), arq.Act{Acked: 1})
		hears(t, a, answer(api.RR, 3), arq.Act{Failed: true}) // the new one was never sent
	}
}

// left is what is left of 5 ticks that are counted, or not.
func left(counted bool) int {
	if counted {
		return 5
	}
	return 0
}

func TestHearFailsAtWhatWaitsButWasNeverSent(t *testing.T) {
	a := arq.New(7, 3, 5)
	pushes(t, a, "a", "b")
	a.Next()
	hears(t, a, answer(api.RR, 2), arq.Act{Failed: true})
	b := arq.New(7, 3, 5)
	hears(t, b, answer(api.RR, 0), arq.Act{})
	hears(t, b, answer(api.RR, 7), arq.Act{Failed: true})
}

func TestHearOfAllRoundBehindSeven(t *testing.T) {
	a := arq.New(7, 3, 5)
	for i := range 20 {
		for range 7 {
			pushes(t, a, "x")
			a.Next()
		}
		nr := uint8((i + 1) * 7 % 8)
		if e := a.Push("y"); e != api.ErrLimit {
			t.Fatal(e)
		}
		hears(t, a, answer(api.RR, nr), arq.Act{Acked: 7})
		looks(t, a, arq.View{VA: nr, VS: nr})
	}
}

func TestHearThatAcknowledgesTakesTriesBack(t *testing.T) {
	a := sends(t, 7, 3, 2, 0, 3)
	ticks(t, a, 4)
	looks(t, a, arq.View{VS: 3, Waits: 3, Out: 3, Tries: 2, Left: 2, Asks: true})
	hears(t, a, answer(api.RR, 0), arq.Act{})
	looks(t, a, arq.View{VS: 3, Waits: 3, Out: 3, Tries: 2, Left: 2, Asks: true})
	hears(t, a, answer(api.RR, 1), arq.Act{Acked: 1})
	looks(t, a, arq.View{VA: 1, VS: 3, Waits: 2, Out: 2, Left: 2, Asks: true})
}

func TestHearOfABusyPeer(t *testing.T) {
	for _, f := range []api.Frame{answer(api.RNR, 1), final(api.RNR, 1), poll(api.RNR, 1), {Kind: api.RNR, Command: true, NR: 1}} {
		for _, g := range []api.Frame{answer(api.RR, 1), answer(api.REJ, 1), poll(api.RR, 1), {Kind: api.REJ, Command: true, NR: 1}} {
			a := sends(t, 7, 3, 5, 0, 3)
			hears(t, a, f, arq.Act{Acked: 1})
			looks(t, a, arq.View{VA: 1, VS: 1, Waits: 2, PeerBusy: true, Left: 5})
			hears(t, a, api.Frame{Kind: api.I, NR: 1, Info: "x"}, arq.Act{Info: "x", Taken: true})
			looks(t, a, arq.View{VA: 1, VS: 1, VR: 1, Waits: 2, PeerBusy: true, Left: 5})
			hears(t, a, g, arq.Act{})
			looks(t, a, arq.View{VA: 1, VS: 1, VR: 1, Waits: 2})
			a.Next()
			tells(t, a, info(1, 1, "1"), info(2, 1, "2"))
		}
	}
}

func TestHearOfARejectSendsAgain(t *testing.T) {
	a := sends(t, 7, 3, 5, 6, 4)
	hears(t, a, answer(api.REJ, 7), arq.Act{Acked: 1})
	looks(t, a, arq.View{VA: 7, VS: 7, Waits: 3})
	tells(t, a, info(7, 0, "1"), info(0, 0, "2"), info(1, 0, "3"))
	hears(t, a, answer(api.REJ, 7), arq.Act{})
	tells(t, a, info(7, 0, "1"), info(0, 0, "2"), info(1, 0, "3"))
	hears(t, a, answer(api.RR, 7), arq.Act{})
	tells(t, a)
}

func TestHearOfTheFinalBitWhenItAsks(t *testing.T) {
	for _, kind := range []uint8{api.I, api.RR, api.REJ, api.RNR} {
		for _, told := range []bool{false, true} {
			a := sends(t, 7, 3, 2, 0, 2)
			ticks(t, a, 2)
			if told {
				tells(t, a, poll(api.RR, 0))
			}
			hears(t, a, api.Frame{Kind: kind, PF: true, NS: 3}, arq.Act{})
			v := a.View()
			if v.Asks || v.Out != 0 || v.Tries != 0 || v.Waits != 2 {
				t.Errorf("%d: %+v", kind, v)
			}
			if kind == api.I {
				if f, ok := a.Next(); !ok || f != answer(api.REJ, 0) {
					t.Errorf("%+v %v", f, ok)
				}
			}
			if kind == api.RNR {
				tells(t, a)
				continue
			}
			tells(t, a, info(0, 0, "0"), info(1, 0, "1"))
		}
	}
}

func TestHearOfTheFinalBitWhenItDoesNotAsk(t *testing.T) {
	a := sends(t, 7, 3, 5, 0, 2)
	ticks(t, a, 1)
	hears(t, a, final(api.RR, 0), arq.Act{})
	looks(t, a, arq.View{VS: 2, Waits: 2, Out: 2, Left: 4})
	tells(t, a)
}

func TestHearOfAnAnswerThatIsNotFinal(t *testing.T) {
	for _, f := range []api.Frame{answer(api.RR, 0), poll(api.RR, 0), {Kind: api.RR, Command: true}, {Kind: api.REJ}, {Kind: api.RNR}, poll(api.REJ, 0)} {
		a := sends(t, 7, 3, 2, 0, 1)
		ticks(t, a, 4)
		hears(t, a, f, arq.Act{})
		if v := a.View(); !v.Asks || v.Tries != 2 || v.Left != 2 {
			t.Errorf("%+v: %+v", f, v)
		}
		if f.PF {
			tells(t, a, final(api.RR, 0), poll(api.RR, 0))
		} else {
			tells(t, a, poll(api.RR, 0))
		}
	}
}

func TestHearTakesInOrder(t *testing.T) {
	a := arq.New(1, 3, 5)
	for i := range 20 {
		text := strings.Repeat("x", i%3)
		f := info(uint8(i%8), 0, text)
		f.Command = i%2 == 0
		hears(t, a, f, arq.Act{Info: text, Taken: true})
		looks(t, a, arq.View{VR: uint8((i + 1) % 8)})
		if i%4 != 0 {
			tells(t, a, answer(api.RR, uint8((i+1)%8)))
		}
	}
}

func TestHearAsksOnceForWhatIsOutOfOrder(t *testing.T) {
	for vr := range uint8(16) {
		for off := uint8(1); off < 8; off++ {
			a := takes(t, vr)
			hears(t, a, info((vr+off)%8, 0, "y"), arq.Act{})
			looks(t, a, arq.View{VR: vr % 8, Rejects: true})
			tells(t, a, answer(api.REJ, vr%8))
			hears(t, a, info((vr+off)%8, 0, "y"), arq.Act{})
			hears(t, a, info((vr+off+1)%8|8, 0, "y"), acts(off == 7, "y"))
			if off < 7 {
				tells(t, a)
				looks(t, a, arq.View{VR: vr % 8, Rejects: true})
				hears(t, a, info(vr%8, 0, "z"), arq.Act{Info: "z", Taken: true})
			}
			looks(t, a, arq.View{VR: (vr + 1) % 8})
			tells(t, a, answer(api.RR, (vr+1)%8))
			hears(t, a, info(vr%8, 0, "z"), arq.Act{}) // once more, though it was taken
			tells(t, a, answer(api.REJ, (vr+1)%8))
		}
	}
}

// acts is what is told of an information that is taken, or not.
func acts(taken bool, text string) arq.Act {
	if taken {
		return arq.Act{Info: text, Taken: true}
	}
	return arq.Act{}
}

func TestHearTakesARejectBack(t *testing.T) {
	a := takes(t, 3)
	hears(t, a, info(4, 0, "late"), arq.Act{})
	hears(t, a, info(3, 0, "x"), arq.Act{Info: "x", Taken: true})
	tells(t, a, answer(api.RR, 4))
	hears(t, a, poll(api.I, 0), arq.Act{})
	hears(t, a, info(4, 0, "x"), arq.Act{Info: "x", Taken: true})
	tells(t, a, final(api.RR, 5)) // the bit stays
}

func TestHearWhileItIsBusy(t *testing.T) {
	a := takes(t, 2)
	a.SetBusy(true)
	tells(t, a, answer(api.RNR, 2))
	hears(t, a, info(2, 0, "x"), arq.Act{})
	looks(t, a, arq.View{VR: 2, Busy: true})
	tells(t, a, answer(api.RNR, 2))
	hears(t, a, info(3, 0, "y"), arq.Act{})
	looks(t, a, arq.View{VR: 2, Busy: true})
	tells(t, a)
	f := info(3, 0, "y")
	f.PF = true
	hears(t, a, f, arq.Act{})
	tells(t, a, final(api.RNR, 2))
	a.SetBusy(false)
	tells(t, a, answer(api.RR, 2))
	hears(t, a, info(2, 0, "x"), arq.Act{Info: "x", Taken: true})
}

func TestHearInOrderWhileItIsBusyAndRejects(t *testing.T) {
	a := takes(t, 2)
	hears(t, a, info(3, 0, "y"), arq.Act{})
	a.SetBusy(true)
	hears(t, a, info(2, 0, "x"), arq.Act{})
	looks(t, a, arq.View{VR: 2, Busy: true, Rejects: true})
	a.SetBusy(false)
	tells(t, a, answer(api.REJ, 2)) // it was due as a reject all the while
	looks(t, a, arq.View{VR: 2, Rejects: true})
}

func TestHearOfAPollBehindEachInformation(t *testing.T) {
	for _, x := range []struct {
		busy, rejects bool
		ns            uint8
		act           arq.Act
		kind, nr      uint8
	}{
		{false, false, 2, arq.Act{Info: "x", Taken: true}, api.RR, 3},
		{false, false, 3, arq.Act{}, api.REJ, 2},
		{false, true, 3, arq.Act{}, api.RR, 2},
		{false, true, 2, arq.Act{Info: "x", Taken: true}, api.RR, 3},
		{true, false, 2, arq.Act{}, api.RNR, 2},
		{true, false, 3, arq.Act{}, api.RNR, 2},
		{true, true, 2, arq.Act{}, api.RNR, 2},
		{true, true, 3, arq.Act{}, api.RNR, 2},
	} {
		a := takes(t, 2)
		if x.rejects {
			hears(t, a, info(5, 0, "late"), arq.Act{})
			a.Next()
		}
		if x.busy {
			a.SetBusy(true)
			a.Next()
		}
		hears(t, a, api.Frame{Kind: api.I, Command: true, PF: true, NS: x.ns, Info: "x"}, x.act)
		tells(t, a, final(x.kind, x.nr))
	}
}

func TestHearOfAPollOfEachKind(t *testing.T) {
	for _, kind := range []uint8{api.RR, api.RNR, api.REJ} {
		a := takes(t, 3)
		hears(t, a, poll(kind, 0), arq.Act{})
		hears(t, a, answer(kind, 0), arq.Act{})
		tells(t, a, final(api.RR, 3))
		hears(t, a, api.Frame{Kind: kind, Command: true}, arq.Act{})
		hears(t, a, final(kind, 0), arq.Act{})
		tells(t, a)
	}
}

func TestHearOfOneThatFailed(t *testing.T) {
	a := sends(t, 7, 0, 1, 0, 3)
	fails(t, a)
	was := a.View()
	for _, f := range []api.Frame{answer(api.RR, 2), final(api.RR, 3), answer(api.RR, 7), poll(api.RNR, 0), info(0, 0, "x"), info(1, 3, "x")} {
		hears(t, a, f, arq.Act{})
		looks(t, a, was)
		tells(t, a)
	}
}

func TestHearOfTheChannelAndOfInformationElsewhere(t *testing.T) {
	a := sends(t, 7, 3, 5, 0, 2)
	hears(t, a, api.Frame{DLCI: 200, Kind: api.RR, NR: 1, NS: 77, Info: "not taken"}, arq.Act{Acked: 1})
	looks(t, a, arq.View{VA: 1, VS: 2, Waits: 1, Out: 1, Left: 5})
}

// P15.5

func TestSetBusyIsDueOnceItIsAnother(t *testing.T) {
	a := takes(t, 1)
	a.SetBusy(false)
	tells(t, a)
	a.SetBusy(true)
	looks(t, a, arq.View{VR: 1, Busy: true})
	tells(t, a, answer(api.RNR, 1))
	a.SetBusy(true)
	tells(t, a)
	a.SetBusy(false)
	looks(t, a, arq.View{VR: 1})
	tells(t, a, answer(api.RR, 1))
	a.SetBusy(false)
	tells(t, a)
	a.SetBusy(true)
	a.SetBusy(false)
	tells(t, a, answer(api.RR, 1))
}

func TestSetWantCountsTicks(t *testing.T) {
	a := arq.New(7, 3, 5)
	a.SetWant(true)
	looks(t, a, arq.View{Left: 5, Wants: true})
	ticks(t, a, 2)
	a.SetWant(true)
	looks(t, a, arq.View{Left: 3, Wants: true})
	a.SetWant(false)
	looks(t, a, arq.View{})
	a.SetWant(false)
	looks(t, a, arq.View{})
	a.SetWant(true)
	looks(t, a, arq.View{Left: 5, Wants: true})
	tells(t, a)
}

func TestAWantThatIsStruckWhileSomethingIsOut(t *testing.T) {
	a := sends(t, 7, 3, 5, 0, 1)
	ticks(t, a, 1)
	a.SetWant(true)
	a.SetWant(false)
	looks(t, a, arq.View{VS: 1, Waits: 1, Out: 1, Left: 4})
}

func TestSetOfOneThatFailed(t *testing.T) {
	a := sends(t, 7, 0, 1, 0, 1)
	fails(t, a)
	was := a.View()
	a.SetBusy(true)
	a.SetWant(true)
	looks(t, a, was)
	tells(t, a)
	b := arq.New(7, 0, 1)
	b.SetBusy(true)
	b.SetWant(true)
	hears(t, b, answer(api.RR, 1), arq.Act{Failed: true})
	b.SetBusy(false)
	b.SetWant(false)
	looks(t, b, arq.View{Busy: true, Wants: true, Failed: true})
}

// P15.6

func TestTickWithNothingOut(t *testing.T) {
	a := arq.New(7, 0, 1)
	ticks(t, a, 300)
	pushes(t, a, "waits")
	ticks(t, a, 300)
	looks(t, a, arq.View{Waits: 1})
	a.SetBusy(true)
	hears(t, a, poll(api.RR, 0), arq.Act{})
	ticks(t, a, 300)
	looks(t, a, arq.View{Waits: 1, Busy: true})
}

func TestTickWithSomethingOut(t *testing.T) {
	a := sends(t, 7, 1, 3, 0, 2)
	for left := 3; left > 0; left-- {
		looks(t, a, arq.View{VS: 2, Waits: 2, Out: 2, Left: left})
		tells(t, a)
		ticks(t, a, 1)
	}
	looks(t, a, arq.View{VS: 2, Waits: 2, Out: 2, Tries: 1, Left: 3, Asks: true})
	tells(t, a, poll(api.RR, 0))
	ticks(t, a, 2)
	tells(t, a)
	fails(t, a)
	looks(t, a, arq.View{VS: 2, Waits: 2, Out: 2, Tries: 2, Asks: true, Failed: true})
	ticks(t, a, 9)
}

func TestTickOfOneThatOnlyWants(t *testing.T) {
	for _, n2 := range []int{0, 1, 255} {
		a := arq.New(7, n2, 2)
		a.SetWant(true)
		ticks(t, a, 2)
		looks(t, a, arq.View{Left: 2, Asks: true, Wants: true})
		for try := range n2 {
			tells(t, a, poll(api.RR, 0))
			ticks(t, a, 2)
			looks(t, a, arq.View{Tries: try + 1, Left: 2, Asks: true, Wants: true})
		}
		ticks(t, a, 1)
		fails(t, a)
		looks(t, a, arq.View{Tries: n2 + 1, Asks: true, Wants: true, Failed: true})
	}
}

func TestTickOfOneThatWantsAndIsAnswered(t *testing.T) {
	a := arq.New(7, 0, 2)
	a.SetWant(true)
	for range 300 {
		ticks(t, a, 2)
		tells(t, a, poll(api.RR, 0))
		hears(t, a, final(api.RR, 0), arq.Act{})
		looks(t, a, arq.View{Left: 2, Wants: true})
	}
}

func TestTickOfOneThatAsksAndWantsNoMore(t *testing.T) {
	a := arq.New(7, 0, 2)
	a.SetWant(true)
	ticks(t, a, 2)
	a.SetWant(false)
	looks(t, a, arq.View{Left: 2, Asks: true})
	ticks(t, a, 1)
	fails(t, a)
}

func TestTickWhilePeerIsBusyAndSomethingWaits(t *testing.T) {
	a := arq.New(7, 0, 2)
	hears(t, a, answer(api.RNR, 0), arq.Act{})
	looks(t, a, arq.View{PeerBusy: true})
	ticks(t, a, 9)
	tells(t, a)
	pushes(t, a, "x")
	looks(t, a, arq.View{Waits: 1, PeerBusy: true, Left: 2})
	ticks(t, a, 1)
	pushes(t, a, "y")
	looks(t, a, arq.View{Waits: 2, PeerBusy: true, Left: 1})
	ticks(t, a, 1)
	looks(t, a, arq.View{Waits: 2, PeerBusy: true, Left: 2, Asks: true})
	tells(t, a, poll(api.RR, 0))
	hears(t, a, final(api.RNR, 0), arq.Act{})
	looks(t, a, arq.View{Waits: 2, PeerBusy: true, Left: 2})
	ticks(t, a, 2)
	tells(t, a, poll(api.RR, 0))
	hears(t, a, final(api.RR, 0), arq.Act{})
	looks(t, a, arq.View{Waits: 2})
	tells(t, a, info(0, 0, "x"), info(1, 0, "y"))
}

func TestTickAsksAgainThoughThePollWasNotTold(t *testing.T) {
	a := sends(t, 7, 2, 1, 0, 1)
	ticks(t, a, 2)
	looks(t, a, arq.View{VS: 1, Waits: 1, Out: 1, Tries: 2, Left: 1, Asks: true})
	tells(t, a, poll(api.RR, 0)) // once, though it was due twice
	fails(t, a)
}

func TestWhichCallsBeginTheTicksAnew(t *testing.T) {
	for _, x := range []struct {
		name string
		call func(a *arq.Arq)
		left int
	}{
		{"Push", func(a *arq.Arq) { a.Push("y") }, 2},
		{"Push of one more", func(a *arq.Arq) { a.Push("y"); a.Push("y"); a.Push("y"); a.Push("y") }, 2},
		{"Next", func(a *arq.Arq) { a.Push("y"); a.Next() }, 2},
		{"Has", func(a *arq.Arq) { a.Has() }, 2},
		{"View", func(a *arq.Arq) { a.View() }, 2},
		{"SetBusy", func(a *arq.Arq) { a.SetBusy(true) }, 2},
		{"SetWant", func(a *arq.Arq) { a.SetWant(true) }, 2},
		{"Tick", func(a *arq.Arq) { a.Tick() }, 1},
		{"a Hear that acknowledges nothing", func(a *arq.Arq) { a.Hear(answer(api.RR, 0)) }, 2},
		{"a poll", func(a *arq.Arq) { a.Hear(poll(api.RR, 0)) }, 2},
		{"a taken one", func(a *arq.Arq) { a.Hear(info(0, 0, "x")) }, 2},
		{"an RNR", func(a *arq.Arq) { a.Hear(answer(api.RNR, 0)) }, 2},
		{"an REJ", func(a *arq.Arq) { a.Hear(answer(api.REJ, 0)) }, 0},
		{"an REJ, and what is sent behind it", func(a *arq.Arq) { a.Hear(answer(api.REJ, 0)); a.Next() }, 3},
		{"an REJ where it wants", func(a *arq.Arq) { a.SetWant(true); a.Hear(answer(api.REJ, 0)) }, 2},
		{"a Hear that acknowledges one", func(a *arq.Arq) { a.Hear(answer(api.RR, 1)) }, 3},
		{"a taken one that acknowledges one", func(a *arq.Arq) { a.Hear(info(0, 1, "x")) }, 3},
		{"an RNR that acknowledges one", func(a *arq.Arq) { a.Hear(answer(api.RNR, 1)) }, 3},
		{"a Hear that acknowledges all", func(a *arq.Arq) { a.Hear(answer(api.RR, 2)) }, 0},
		{"an RNR that acknowledges all", func(a *arq.Arq) { a.Hear(answer(api.RNR, 2)) }, 0},
		{"a Hear that acknowledges all, where it wants", func(a *arq.Arq) { a.SetWant(true); a.Hear(answer(api.RR, 2)) }, 3},
		{"a Hear of no kind", func(a *arq.Arq) { a.Hear(api.Frame{Kind: api.UIH, NR: 1}) }, 2},
		{"a Hear that fails", func(a *arq.Arq) { a.Hear(answer(api.RR, 3)) }, 0},
	} {
		a := sends(t, 4, 3, 3, 0, 2)
		ticks(t, a, 1)
		x.call(a)
		if v := a.View(); v.Left != x.left {
			t.Errorf("%s: %d are left, not %d", x.name, v.Left, x.left)
		}
	}
}

func TestTicksBeginAnewWhileItAsks(t *testing.T) {
	a := sends(t, 4, 3, 3, 0, 2)
	ticks(t, a, 4)
	looks(t, a, arq.View{VS: 2, Waits: 2, Out: 2, Tries: 1, Left: 2, Asks: true})
	hears(t, a, answer(api.RR, 2), arq.Act{Acked: 2})
	looks(t, a, arq.View{VA: 2, VS: 2, Left: 3, Asks: true})
	ticks(t, a, 1)
	hears(t, a, final(api.RR, 2), arq.Act{})
	looks(t, a, arq.View{VA: 2, VS: 2})
}

// P15.7

func TestViewTellsEachThing(t *testing.T) {
	a := sends(t, 7, 3, 5, 14, 3)
	hears(t, a, answer(api.RNR, 7), arq.Act{Acked: 1})
	hears(t, a, answer(api.RR, 7), arq.Act{})
	tells(t, a, info(7, 0, "1"), info(0, 0, "2"))
	pushes(t, a, "3", "4")
	hears(t, a, info(0, 7, "x"), arq.Act{Info: "x", Taken: true})
	hears(t, a, info(2, 7, "z"), arq.Act{})
	ticks(t, a, 7)
	a.SetBusy(true)
	a.SetWant(true)
	looks(t, a, arq.View{VA: 7, VS: 1, VR: 1, Waits: 4, Out: 2, Tries: 1, Left: 3, Busy: true, Rejects: true, Asks: true, Wants: true})
	hears(t, a, answer(api.RNR, 0), arq.Act{Acked: 1})
	looks(t, a, arq.View{VA: 0, VS: 0, VR: 1, Waits: 3, Left: 5, PeerBusy: true, Busy: true, Rejects: true, Asks: true, Wants: true})
	hears(t, a, answer(api.RNR, 2), arq.Act{Failed: true})
	looks(t, a, arq.View{VA: 0, VS: 0, VR: 1, Waits: 3, PeerBusy: true, Busy: true, Rejects: true, Asks: true, Wants: true, Failed: true})
}

func TestViewChangesNothing(t *testing.T) {
	a := sends(t, 7, 3, 5, 6, 3)
	was := a.View()
	for range 9 {
		looks(t, a, was)
	}
}

// P15.8

func TestAnswersStayAsTheyWere(t *testing.T) {
	a := arq.New(3, 3, 5)
	pushes(t, a, "a", "b", "c")
	f, _ := a.Next()
	v := a.View()
	act := a.Hear(info(0, 1, "x"))
	pushes(t, a, "d")
	for a.Has() {
		a.Next()
	}
	a.Hear(info(1, 3, "y"))
	pushes(t, a, "e", "f")
	if f != info(0, 0, "a") || v != (arq.View{VS: 1, Waits: 3, Out: 1, Left: 5}) || act != (arq.Act{Info: "x", Taken: true, Acked: 1}) {
		t.Errorf("%+v, %+v, %+v", f, v, act)
	}
}

func TestSidesAreApart(t *testing.T) {
	a, b := arq.New(2, 3, 5), arq.New(2, 3, 5)
	pushes(t, a, "a", "b")
	pushes(t, b, "c")
	hears(t, b, poll(api.RNR, 0), arq.Act{})
	tells(t, a, info(0, 0, "a"), info(1, 0, "b"))
	tells(t, b, final(api.RR, 0))
	hears(t, a, answer(api.RR, 1), arq.Act{Acked: 1})
	pushes(t, b, "d")
	hears(t, b, answer(api.RR, 0), arq.Act{})
	tells(t, b, info(0, 0, "c"), info(1, 0, "d"))
	hears(t, a, answer(api.RR, 7), arq.Act{Failed: true})
	looks(t, b, arq.View{VS: 2, Waits: 2, Out: 2, Left: 5})
}

// All of it, held against a plain side

// frames are those of some kinds and numbers, with all bits.
func frames(visit func(f api.Frame)) {
	for _, kind := range []uint8{0, api.UIH, api.UI, api.I, api.RR, api.RNR, api.REJ, 11, 255} {
		for bits := range 4 {
			for _, ns := range []uint8{0, 1, 2, 5, 7, 8, 255} {
				for nr := range uint8(9) {
					visit(api.Frame{Kind: kind, Command: bits&1 > 0, PF: bits&2 > 0, NS: ns, NR: nr, Info: "heard"})
				}
			}
		}
	}
}

// scripts bring a side into many states, each letter a call.
var scripts = []string{"", "p", "ppp", "pnpn", "ppnnp", "pnt", "pnttt", "pntttn", "pnttttn", "w", "wttt", "wtttnp", "b", "bn", "bnp", "bnpnttt", "pnr", "pnrn", "ppnnr", "ppnnrn", "pnj", "ppnnj", "ppnnjn", "ppnnnjw", "x", "xn", "xnb", "xbn", "ppnnxttt", "xxxyyy", "o", "on", "onbn", "onttt", "opnttt", "ppppppppnnnnnnnnatpn", "pnttttttttttttt", "wwvv", "bdbdn", "pnaapnapnapnapnapnapnapna", "ppnnnqqn", "pnrttt", "pnrtttn", "pnrtttnF", "pntttF", "pntttnFn"}

// play makes the calls of a script.
func (b *both) play(script string) {
	b.t.Helper()
	for _, c := range script {
		va, vr := b.a.View().VA, b.a.View().VR
		switch c {
		case 'p':
			b.push(strconv.Itoa(len(b.p.pushed)))
		case 'n':
			b.next()
		case 't':
			b.tick()
		case 'w', 'v':
			b.setWant(c == 'w')
		case 'b', 'd':
			b.setBusy(c == 'b')
		case 'a':
			b.hear(answer(api.RR, va+1))
		case 'r':
			b.hear(answer(api.RNR, va))
		case 'j':
			b.hear(answer(api.REJ, va))
		case 'q':
			b.hear(poll(api.RR, va))
		case 'F':
			b.hear(final(api.RR, va))
		case 'x':
			b.hear(info(vr, va, "in order"))
		case 'y':
			b.hear(api.Frame{Kind: api.I, Command: true, PF: true, NS: vr, NR: va})
		case 'o':
			b.hear(info(vr+1, va, "out of order"))
		}
	}
}

// rest is what a side tells yet, and how its ticks go on.
func (b *both) rest() {
	b.t.Helper()
	b.push("behind")
	for ok := true; ok; {
		_, ok = b.next()
	}
	for range 14 {
		b.tick()
		b.next()
	}
}

func TestEachFrameInManyStates(t *testing.T) {
	for _, script := range scripts {
		frames(func(f api.Frame) {
			b := newBoth(t, 4, 2, 3)
			b.play(script)
			b.hear(f)
			b.rest()
		})
	}
}

func TestEachPairOfScripts(t *testing.T) {
	for _, one := range scripts {
		for _, other := range scripts {
			for k := 1; k <= 7; k += 2 {
				b := newBoth(t, k, k/2, 8-k)
				b.play(one + other)
				b.rest()
			}
		}
	}
}

func TestManyWalks(t *testing.T) {
	const letters = "ppppnnnnnttwvbdaaarjqFxxxyo"
	for seed := range int64(2000) {
		r := rand.New(rand.NewSource(seed))
		b := newBoth(t, 1+r.Intn(7), r.Intn(4), 1+r.Intn(4))
		for range 300 {
			if r.Intn(400) == 0 {
				b.hear(api.Frame{Kind: uint8(r.Intn(12)), Command: r.Intn(2) == 0, PF: r.Intn(2) == 0, NS: uint8(r.Intn(256)), NR: uint8(r.Intn(256)), Info: "any"})
			}
			b.play(string(letters[r.Intn(len(letters))]))
		}
	}
}

// P15.9

// direction is what was pushed at one side, and what the other side took.
type direction struct{ pushed, taken []string }

// ends are two sides, and the frames between them: lines[i] leads from sides[i].
type ends struct {
	t     *testing.T
	k     int
	sides [2]*both
	lines [2][]api.Frame
	data  [2]direction
	count int
}

func newEnds(t *testing.T, k, n2, t1 int) *ends {
	return &ends{t: t, k: k, sides: [2]*both{newBoth(t, k, n2, t1), newBoth(t, k, n2, t1)}}
}

func (e *ends) failed() bool { return e.sides[0].p.failed || e.sides[1].p.failed }

func (e *ends) push(i int) {
	e.t.Helper()
	side := e.sides[i]
	text := strconv.Itoa(e.count)
	e.count++
	if !side.p.failed && side.p.waits() < e.k {
		e.data[i].pushed = append(e.data[i].pushed, text)
	}
	side.push(text)
	if v := side.a.View(); v.Waits > e.k {
		e.t.Fatalf("%d wait", v.Waits)
	}
}

// send puts what a side tells onto its line, unless it is lost.
func (e *ends) send(i int, lost bool) bool {
	e.t.Helper()
	f, ok := e.sides[i].next()
	if ok && !lost {
		e.lines[i] = append(e.lines[i], f)
	}
	return ok
}

// arrive lets the other side hear what is first on a line.
func (e *ends) arrive(i int) bool {
	e.t.Helper()
	if len(e.lines[i]) == 0 {
		return false
	}
	f := e.lines[i][0]
	e.lines[i] = e.lines[i][1:]
	act := e.sides[1-i].hear(f)
	if act.Failed {
		e.t.Fatalf("a side fails at %+v", f)
	}
	if act.Taken {
		d := &e.data[i]
		d.taken = append(d.taken, act.Info)
		if len(d.taken) > len(d.pushed) || !slices.Equal(d.taken, d.pushed[:len(d.taken)]) {
			e.t.Fatalf("%v were taken of %v", d.taken, d.pushed)
		}
	}
	return true
}

// settle lets all arrive, till nothing is to be sent any more.
func (e *ends) settle() {
	e.t.Helper()
	for n := range 10000 {
		sent := e.send(0, false)
		sent = e.send(1, false) || sent
		sent = e.arrive(0) || sent
		sent = e.arrive(1) || sent
		if !sent {
			return
		}
		if n == 9999 {
			e.t.Fatal("it does not settle")
		}
	}
}

// step does one thing by chance; what a side sends is lost where the chance of its line says so.
func (e *ends) step(r *rand.Rand, loss [2]int) {
	e.t.Helper()
	i := r.Intn(2)
	switch n := r.Intn(100); {
	case n < 20:
		e.push(i)
	case n < 55:
		e.send(i, r.Intn(100) < loss[i])
	case n < 85:
		e.arrive(i)
	case n < 93:
		e.sides[0].tick()
		e.sides[1].tick()
	case n < 97:
		e.sides[i].setBusy(r.Intn(3) == 0)
	default:
		e.sides[i].setWant(r.Intn(2) == 0)
	}
}

// stepOneWay is a step of two of which only the first one has something to send, or wants.
func (e *ends) stepOneWay(r *rand.Rand, loss [2]int) {
	e.t.Helper()
	i := r.Intn(2)
	switch n := r.Intn(100); {
	case n < 20:
		e.push(0)
	case n < 55:
		e.send(i, r.Intn(100) < loss[i])
	case n < 85:
		e.arrive(i)
	case n < 93:
		e.sides[0].tick()
		e.sides[1].tick()
	case n < 97:
		e.sides[1].setBusy(r.Intn(3) == 0)
	default:
		e.sides[0].setWant(r.Intn(2) == 0)
	}
}

// endsWell tells whether within so many ticks all is taken, when from now on nothing is lost, and neither is busy.
func (e *ends) endsWell(ticks int) {
	e.t.Helper()
	e.sides[0].setBusy(false)
	e.sides[1].setBusy(false)
	e.settle()
	for range ticks {
		e.sides[0].tick()
		e.sides[1].tick()
		e.settle()
	}
	for i, d := range e.data {
		if !e.failed() && !slices.Equal(d.taken, d.pushed) {
			e.t.Fatalf("%d: %v were taken of %v: %+v, %+v", i, d.taken, d.pushed, e.sides[0].a.View(), e.sides[1].a.View())
		}
	}
}

// losses are the chances, out of a hundred, that a frame is lost of each line.
var losses = [][2]int{{0, 0}, {30, 0}, {0, 30}, {30, 30}, {10, 60}, {80, 80}, {100, 0}, {0, 100}}

// TestTwoSides allows for twice T1 where both sides have something out: what the other one's poll acknowledges begins the ticks anew.
func TestTwoSides(t *testing.T) {
	for _, loss := range losses {
		for seed := range int64(150) {
			r := rand.New(rand.NewSource(seed))
			t1 := 1 + r.Intn(6)
			e := newEnds(t, 1+r.Intn(7), []int{0, 1, 3, 255}[r.Intn(4)], t1)
			for range 20 + r.Intn(300) {
				e.step(r, loss)
			}
			e.endsWell(2 * t1)
		}
	}
}

func TestTwoSidesOfWhichOneHasSomething(t *testing.T) {
	for _, loss := range losses {
		for seed := range int64(150) {
			r := rand.New(rand.NewSource(seed))
			t1 := 1 + r.Intn(6)
			e := newEnds(t, 1+r.Intn(7), []int{0, 1, 3, 255}[r.Intn(4)], t1)
			for range 20 + r.Intn(300) {
				e.stepOneWay(r, loss)
			}
			e.endsWell(t1 + 1)
		}
	}
}

func TestTwoSidesFailByTriesAlone(t *testing.T) {
	taken := 0
	for seed := range int64(50) {
		r := rand.New(rand.NewSource(seed))
		e := newEnds(t, 1+r.Intn(7), 255, 1+r.Intn(3))
		for range 1000 {
			e.step(r, [2]int{25, 25})
		}
		if e.failed() {
			t.Fatal("one failed, though 255 tries are not used up")
		}
		taken += len(e.data[0].taken) + len(e.data[1].taken)
		e.endsWell(6)
	}
	if taken < 1000 {
		t.Errorf("%d were taken, which tells too little", taken)
	}
}

// TestEachLossOfTwo loses each choice of the first frames of both lines.
func TestEachLossOfTwo(t *testing.T) {
	for k := 1; k <= 4; k++ {
		for lost := range 1 << 12 {
			e := newEnds(t, k, 9, 2)
			for n := range 6 {
				e.push(0)
				e.push(1)
				e.send(0, lost>>(2*n)&1 > 0)
				e.send(1, lost>>(2*n+1)&1 > 0)
				e.arrive(0)
				e.arrive(1)
				if n == 3 {
					e.sides[0].tick()
					e.sides[1].tick()
				}
			}
			e.endsWell(4)
			if e.failed() {
				t.Fatal("one failed")
			}
		}
	}
}

// The chapter's examples

func TestTheChaptersExamples(t *testing.T) {
	a := arq.New(2, 1, 3)
	pushes(t, a, "a", "b")
	if e := a.Push("c"); e != api.ErrLimit {
		t.Error(e)
	}
	tells(t, a, info(0, 0, "a"), info(1, 0, "b"))
	hears(t, a, answer(api.RR, 1), arq.Act{Acked: 1})
	looks(t, a, arq.View{VA: 1, VS: 2, Waits: 1, Out: 1, Left: 3})
	ticks(t, a, 3)
	tells(t, a, poll(api.RR, 0))
	ticks(t, a, 2)
	fails(t, a)
}
