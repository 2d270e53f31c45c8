package credit_test

import (
	"testing"

	"partyline/api"
	"partyline/credit"
)

// P17.4

// way is a purse and a till of one room, and what is under way between them, both ways, in the order in which it was sent.
type way struct {
	room        int
	purse       *credit.Purse
	till        *credit.Till
	bytes, back []int
}

func newWay(room int) *way {
	return &way{room: plainRoom(room), purse: credit.NewPurse(room), till: credit.NewTill(room)}
}

func sum(numbers []int) int {
	all := 0
	for _, n := range numbers {
		all += n
	}
	return all
}

// sums asks that all parts together are the room, and that none of them is none.
func (w *way) sums(t *testing.T) {
	t.Helper()
	parts := []int{w.purse.Left(), sum(w.bytes), w.till.Holds(), w.till.Owes(), sum(w.back)}
	for _, n := range parts {
		if n < 0 {
			t.Fatalf("room %d: %v", w.room, parts)
		}
	}
	if sum(parts) != w.room {
		t.Fatalf("room %d: %v are %d together", w.room, parts, sum(parts))
	}
}

func (w *way) send(t *testing.T, n int) {
	t.Helper()
	use(t, w.purse, n, api.OK)
	w.bytes = append(w.bytes, n)
	w.sums(t)
}

// arrive lets what was sent first come. It has place, whatever else there is.
func (w *way) arrive(t *testing.T) {
	t.Helper()
	come(t, w.till, w.bytes[0], api.OK)
	w.bytes = w.bytes[1:]
	w.sums(t)
}

func (w *way) read(t *testing.T, n int) {
	t.Helper()
	read(t, w.till, n, api.OK)
	w.sums(t)
}

func (w *way) pay(t *testing.T) {
	t.Helper()
	w.back = append(w.back, w.till.Pay())
	w.sums(t)
}

func (w *way) granted(t *testing.T) {
	t.Helper()
	grant(t, w.purse, w.back[0], api.OK)
	w.back = w.back[1:]
	w.sums(t)
}

// refused asks that one more than there is, is refused, and that nothing is changed by it.
func (w *way) refused(t *testing.T) {
	t.Helper()
	use(t, w.purse, w.purse.Left()+1, api.ErrLimit)
	grant(t, w.purse, w.room-w.purse.Left()+1, api.ErrLimit)
	come(t, w.till, w.room-w.till.Holds()-w.till.Owes()+1, api.ErrLimit)
	read(t, w.till, w.till.Holds()+1, api.ErrLimit)
	w.sums(t)
}

// ends lets all come, be read, paid and granted: all of the room is left again.
func (w *way) ends(t *testing.T) {
	t.Helper()
	for len(w.bytes) > 0 {
		w.arrive(t)
	}
	w.read(t, w.till.Holds())
	w.pay(t)
	for len(w.back) > 0 {
		w.granted(t)
	}
	left(t, w.purse, w.room)
	has(t, w.till, 0, 0)
	w.refused(t)
}

// step does what may be done of one kind; nothing, where there is nothing to be done.
func (w *way) step(t *testing.T, d *dice) {
	t.Helper()
	switch d.roll(6) {
	case 0:
		w.send(t, d.roll(w.purse.Left()+1))
	case 1:
		if len(w.bytes) > 0 {
			w.arrive(t)
		}
	case 2:
		w.read(t, d.roll(w.till.Holds()+1))
	case 3:
		w.pay(t)
	case 4:
		if len(w.back) > 0 {
			w.granted(t)
		}
	case 5:
		w.refused(t)
	}
}

func TestAllPartsAreTheRoom(t *testing.T) {
	d := dice(174)
	for _, x := range rooms {
		for range 20 {
			w := newWay(x.room)
			w.sums(t)
			for range 200 {
				w.step(t, &d)
			}
			w.ends(t)
		}
	}
}

// What was done ahead leaves nothing behind: the same purse and till are gone through again and again.
func TestAllPartsAreTheRoomAgainAndAgain(t *testing.T) {
	d := dice(175)
	w := newWay(64)
	for range 2000 {
		for range d.roll(30) {
			w.step(t, &d)
		}
		if d.roll(3) == 0 {
			w.ends(t)
		}
	}
	w.ends(t)
}

func TestAllPartsByHand(t *testing.T) {
	w := newWay(10)
	w.send(t, 4)
	w.send(t, 6)
	w.refused(t)
	w.arrive(t)
	w.read(t, 3)
	w.pay(t)
	w.read(t, 1)
	w.granted(t)
	left(t, w.purse, 3)
	w.send(t, 3)
	// All of the room has come, or is owed: nothing more has place.
	w.arrive(t)
	w.arrive(t)
	has(t, w.till, 9, 1)
	w.refused(t)
	w.pay(t)
	w.read(t, 9)
	w.pay(t)
	has(t, w.till, 0, 0)
	w.refused(t)
	w.granted(t)
	w.granted(t)
	left(t, w.purse, 10)
	w.ends(t)
}

// parts are what all bytes of a room are at.
type parts struct{ left, under, held, owed, back int }

// next are all parts that one byte's step, or a Pay, leads to.
func (p parts) next() []parts {
	return []parts{
		{p.left - 1, p.under + 1, p.held, p.owed, p.back},
		{p.left, p.under - 1, p.held + 1, p.owed, p.back},
		{p.left, p.under, p.held - 1, p.owed + 1, p.back},
		{p.left, p.under, p.held, 0, p.back + p.owed},
		{p.left + 1, p.under, p.held, p.owed, p.back - 1},
	}
}

// made is a way with just those parts.
func (p parts) made(t *testing.T, room int) *way {
	t.Helper()
	w := newWay(room)
	w.send(t, p.back)
	w.send(t, p.owed)
	w.send(t, p.held)
	w.send(t, p.under)
	w.arrive(t)
	w.read(t, p.back)
	w.pay(t)
	w.arrive(t)
	w.arrive(t)
	w.read(t, p.owed)
	return w
}

// From all parts that a small room can have: each byte's next step may be, as long as there is a byte for it.
func TestAllPartsOfSmallRooms(t *testing.T) {
	for room := 1; room <= 6; room++ {
		all := []parts{{left: room}}
		seen := map[parts]bool{all[0]: true}
		for i := 0; i < len(all); i++ {
			p := all[i]
			w := p.made(t, room)
			left(t, w.purse, p.left)
			has(t, w.till, p.held, p.owed)
			w.refused(t)
			w.ends(t)
			for _, q := range p.next() {
				if min(q.left, q.under, q.held, q.back) >= 0 && !seen[q] {
					seen[q] = true
					all = append(all, q)
				}
			}
		}
		// As many as there are ways to lay a room's bytes into five heaps.
		want := (room + 1) * (room + 2) * (room + 3) * (room + 4) / 24
		if len(all) != want {
			t.Errorf("room %d: %d sets of parts, not %d", room, len(all), want)
		}
	}
}
