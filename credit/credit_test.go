package credit_test

import (
	"math"
	"slices"
	"testing"

	"partyline/api"
	"partyline/credit"
)

// rooms are such as are brought into their bounds, and such as stay; among them some that would be others, if less than all of their bits were read.
var rooms = []struct{ room, counts int }{
	{math.MinInt, 1}, {math.MinInt + 1, 1}, {math.MinInt + 10, 1}, {-1<<32 + 10, 1}, {math.MinInt32, 1}, {-65526, 1}, {-4097, 1}, {-4096, 1}, {-256, 1}, {-2, 1}, {-1, 1}, {0, 1},
	{1, 1}, {2, 2}, {3, 3}, {10, 10}, {64, 64}, {127, 127}, {128, 128}, {255, 255}, {256, 256}, {257, 257}, {4094, 4094}, {4095, 4095}, {4096, 4096},
	{4097, 4096}, {4098, 4096}, {8192, 4096}, {65535, 4096}, {65536, 4096}, {65546, 4096}, {math.MaxInt32, 4096}, {1 << 32, 4096}, {1<<32 + 10, 4096}, {math.MaxInt - 1, 4096}, {math.MaxInt, 4096},
}

// dice are numbers that follow no plain rule.
type dice uint32

func (d *dice) roll(n int) int {
	*d = *d*1664525 + 1013904223
	return int(*d>>8) % n
}

// edges are the numbers about those that stand, and the least and the greatest ones, with which a sum would go round.
func edges(about ...int) []int {
	all := []int{
		math.MinInt, math.MinInt + 1, math.MinInt + 2, math.MinInt + 4096, -1<<32 + 1, -1 << 32, math.MinInt32, -65535, -4097, -4096, -256, -255, -2, -1, 0, 1, 2,
		255, 256, 257, 4095, 4096, 4097, 65536, 65537, math.MaxInt32, math.MaxInt32 + 1, 1 << 32, 1<<32 + 1, 1<<63 - 4096, math.MaxInt - 1, math.MaxInt,
	}
	for _, n := range about {
		all = append(all, n-1, n, n+1, -n, n+1<<32, math.MaxInt-n, math.MinInt+n)
	}
	slices.Sort(all)
	return slices.Compact(all)
}

// counts are some that a room has: none, few, half, and all but few.
func counts(room int) []int {
	all := []int{0, 1, 2, room / 2, room - 2, room - 1, room}
	slices.Sort(all)
	return slices.DeleteFunc(slices.Compact(all), func(n int) bool { return n < 0 || n > room })
}

// answers holds what was answered against what is asked.
func answers(t *testing.T, name string, n int, got, want api.Errno) {
	t.Helper()
	if got != want {
		t.Fatalf("%s(%d): %v, not %v", name, n, got, want)
	}
}

func use(t *testing.T, p *credit.Purse, n int, want api.Errno) {
	t.Helper()
	answers(t, "Use", n, p.Use(n), want)
}

func grant(t *testing.T, p *credit.Purse, n int, want api.Errno) {
	t.Helper()
	answers(t, "Grant", n, p.Grant(n), want)
}

func left(t *testing.T, p *credit.Purse, want int) {
	t.Helper()
	if n := p.Left(); n != want {
		t.Fatalf("%d are left, not %d", n, want)
	}
}

func come(t *testing.T, x *credit.Till, n int, want api.Errno) {
	t.Helper()
	answers(t, "Come", n, x.Come(n), want)
}

func read(t *testing.T, x *credit.Till, n int, want api.Errno) {
	t.Helper()
	answers(t, "Read", n, x.Read(n), want)
}

func pay(t *testing.T, x *credit.Till, want int) {
	t.Helper()
	if n := x.Pay(); n != want {
		t.Fatalf("Pay: %d, not %d", n, want)
	}
}

func has(t *testing.T, x *credit.Till, holds, owes int) {
	t.Helper()
	if x.Holds() != holds || x.Owes() != owes {
		t.Fatalf("it holds %d and owes %d, not %d and %d", x.Holds(), x.Owes(), holds, owes)
	}
}

// purse is one of a room, of which so many are left.
func purse(t *testing.T, room, n int) *credit.Purse {
	t.Helper()
	p := credit.NewPurse(room)
	use(t, p, plainRoom(room)-n, api.OK)
	left(t, p, n)
	return p
}

// till is one of a room, that holds and owes so many.
func till(t *testing.T, room, holds, owes int) *credit.Till {
	t.Helper()
	x := credit.NewTill(room)
	come(t, x, owes, api.OK)
	read(t, x, owes, api.OK)
	come(t, x, holds, api.OK)
	has(t, x, holds, owes)
	return x
}

// purseStays asks by all calls what a purse has left of a room. It is as it was then.
func purseStays(t *testing.T, p *credit.Purse, room, n int) {
	t.Helper()
	left(t, p, n)
	use(t, p, n+1, api.ErrLimit)
	grant(t, p, room-n+1, api.ErrLimit)
	use(t, p, n, api.OK)
	left(t, p, 0)
	grant(t, p, room, api.OK)
	left(t, p, room)
	use(t, p, room-n, api.OK)
	left(t, p, n)
}

// tillStays asks by all calls but Pay what a till holds and owes, and what is refused. It is as it was then.
func tillStays(t *testing.T, x *credit.Till, room, holds, owes int) {
	t.Helper()
	has(t, x, holds, owes)
	read(t, x, holds+1, api.ErrLimit)
	come(t, x, room-holds-owes+1, api.ErrLimit)
	has(t, x, holds, owes)
}

// tillEnds asks what a till holds and owes by what it takes, and pays, to its end.
func tillEnds(t *testing.T, x *credit.Till, room, holds, owes int) {
	t.Helper()
	tillStays(t, x, room, holds, owes)
	come(t, x, room-holds-owes, api.OK)
	has(t, x, room-owes, owes)
	come(t, x, 1, api.ErrLimit)
	pay(t, x, owes)
	tillStays(t, x, room, room-owes, 0)
	read(t, x, room-owes, api.OK)
	tillStays(t, x, room, 0, room-owes)
	pay(t, x, room-owes)
	tillStays(t, x, room, 0, 0)
}

// P17.1

func TestPurseOfEachRoom(t *testing.T) {
	for _, x := range rooms {
		p := credit.NewPurse(x.room)
		left(t, p, x.counts)
		purseStays(t, p, x.counts, x.counts)
	}
	for room := range 4200 {
		left(t, credit.NewPurse(room), plainRoom(room))
	}
}

// Each call at the edges, with as many left as a room may have.
func TestPurseAtItsEdges(t *testing.T) {
	for _, x := range rooms {
		for _, n := range counts(x.counts) {
			for _, by := range edges(n, x.counts-n, x.counts) {
				p, plain := purse(t, x.room, n), &plainPurse{x.counts, n}
				use(t, p, by, plain.use(by))
				purseStays(t, p, x.counts, plain.left)
				p, plain = purse(t, x.room, n), &plainPurse{x.counts, n}
				grant(t, p, by, plain.grant(by))
				purseStays(t, p, x.counts, plain.left)
			}
		}
	}
}

func TestPurseOfSmallRoomsThroughout(t *testing.T) {
	for room := 1; room <= 20; room++ {
		for n := range room + 1 {
			for by := -3; by <= room+3; by++ {
				p, plain := purse(t, room, n), &plainPurse{room, n}
				use(t, p, by, plain.use(by))
				purseStays(t, p, room, plain.left)
				p, plain = purse(t, room, n), &plainPurse{room, n}
				grant(t, p, by, plain.grant(by))
				purseStays(t, p, room, plain.left)
			}
		}
	}
}

func TestPurseByHand(t *testing.T) {
	p := credit.NewPurse(4096)
	// A grant ahead of any use.
	grant(t, p, 1, api.ErrLimit)
	grant(t, p, 4096, api.ErrLimit)
	grant(t, p, 0, api.OK)
	left(t, p, 4096)
	use(t, p, 4097, api.ErrLimit)
	use(t, p, 4095, api.OK)
	left(t, p, 1)
	use(t, p, 2, api.ErrLimit)
	use(t, p, 1, api.OK)
	left(t, p, 0)
	use(t, p, 1, api.ErrLimit)
	use(t, p, 0, api.OK)
	grant(t, p, 4097, api.ErrLimit)
	grant(t, p, 100, api.OK)
	left(t, p, 100)
	grant(t, p, 3997, api.ErrLimit)
	grant(t, p, 3996, api.OK)
	left(t, p, 4096)
	use(t, p, -1, api.ErrArg)
	grant(t, p, -1, api.ErrArg)
	use(t, p, math.MinInt, api.ErrArg)
	grant(t, p, math.MinInt, api.ErrArg)
	use(t, p, math.MaxInt, api.ErrLimit)
	grant(t, p, math.MaxInt, api.ErrLimit)
	left(t, p, 4096)
}

// However often something is refused, the purse is as it was.
func TestPurseRefuses(t *testing.T) {
	const room = 10
	for n := range room + 1 {
		p := purse(t, room, n)
		for _, by := range edges(n, room) {
			if by < 0 || by > n {
				use(t, p, by, (&plainPurse{room, n}).use(by))
				left(t, p, n)
			}
			if by < 0 || by > room-n {
				grant(t, p, by, (&plainPurse{room, n}).grant(by))
				left(t, p, n)
			}
		}
		purseStays(t, p, room, n)
	}
}

func TestPurseAsItFalls(t *testing.T) {
	d := dice(171)
	for range 300 {
		room := d.roll(80)
		p, plain := credit.NewPurse(room), newPlainPurse(room)
		for range 200 {
			n := d.roll(plain.room+6) - 2
			if d.roll(2) == 0 {
				use(t, p, n, plain.use(n))
			} else {
				grant(t, p, n, plain.grant(n))
			}
			left(t, p, plain.left)
		}
	}
}

// P17.2

func TestTillOfEachRoom(t *testing.T) {
	for _, x := range rooms {
		tillEnds(t, credit.NewTill(x.room), x.counts, 0, 0)
	}
	for room := range 4200 {
		x := credit.NewTill(room)
		has(t, x, 0, 0)
		come(t, x, plainRoom(room)+1, api.ErrLimit)
		come(t, x, plainRoom(room), api.OK)
	}
}

// Each call at the edges, with as many held and owed as a room may have.
func TestTillAtItsEdges(t *testing.T) {
	for _, x := range rooms {
		for _, holds := range counts(x.counts) {
			for _, owes := range counts(x.counts - holds) {
				free := x.counts - holds - owes
				for _, n := range edges(holds, owes, free) {
					tillTakes(t, x.room, plainTill{x.counts, holds, owes}, n)
				}
			}
		}
	}
}

// tillTakes asks for Come and Read of n bytes of a till that is like the plain one.
func tillTakes(t *testing.T, room int, was plainTill, n int) {
	t.Helper()
	x, plain := till(t, room, was.holds, was.owes), was
	come(t, x, n, plain.come(n))
	tillEnds(t, x, plain.room, plain.holds, plain.owes)
	x, plain = till(t, room, was.holds, was.owes), was
	read(t, x, n, plain.read(n))
	tillEnds(t, x, plain.room, plain.holds, plain.owes)
}

func TestTillOfSmallRoomsThroughout(t *testing.T) {
	for room := 1; room <= 12; room++ {
		for holds := range room + 1 {
			for owes := range room - holds + 1 {
				for n := -2; n <= room+2; n++ {
					tillTakes(t, room, plainTill{room, holds, owes}, n)
				}
			}
		}
	}
}

func TestTillByHand(t *testing.T) {
	x := credit.NewTill(10)
	come(t, x, 11, api.ErrLimit)
	read(t, x, 1, api.ErrLimit)
	read(t, x, 0, api.OK)
	come(t, x, 0, api.OK)
	has(t, x, 0, 0)
	come(t, x, 9, api.OK)
	come(t, x, 2, api.ErrLimit)
	has(t, x, 9, 0)
	read(t, x, 10, api.ErrLimit)
	read(t, x, 4, api.OK)
	has(t, x, 5, 4)
	// What is read and not yet paid takes room still.
	come(t, x, 2, api.ErrLimit)
	come(t, x, 1, api.OK)
	has(t, x, 6, 4)
	come(t, x, 1, api.ErrLimit)
	read(t, x, 7, api.ErrLimit)
	read(t, x, 6, api.OK)
	has(t, x, 0, 10)
	come(t, x, 1, api.ErrLimit)
	read(t, x, 1, api.ErrLimit)
	come(t, x, 0, api.OK)
	come(t, x, -1, api.ErrArg)
	read(t, x, -1, api.ErrArg)
	come(t, x, math.MinInt, api.ErrArg)
	read(t, x, math.MinInt, api.ErrArg)
	come(t, x, math.MaxInt, api.ErrLimit)
	read(t, x, math.MaxInt, api.ErrLimit)
	has(t, x, 0, 10)
	pay(t, x, 10)
	come(t, x, 10, api.OK)
	has(t, x, 10, 0)
}

// However often something is refused, the till is as it was.
func TestTillRefuses(t *testing.T) {
	const room = 8
	for holds := range room + 1 {
		for owes := range room - holds + 1 {
			x, free := till(t, room, holds, owes), room-holds-owes
			for _, n := range edges(holds, owes, free) {
				if n < 0 || n > free {
					come(t, x, n, (&plainTill{room, holds, owes}).come(n))
				}
				if n < 0 || n > holds {
					read(t, x, n, (&plainTill{room, holds, owes}).read(n))
				}
				has(t, x, holds, owes)
			}
			tillEnds(t, x, room, holds, owes)
		}
	}
}

func TestTillAsItFalls(t *testing.T) {
	d := dice(172)
	for range 300 {
		room := d.roll(80)
		x, plain := credit.NewTill(room), newPlainTill(room)
		for range 300 {
			n := d.roll(plain.room+6) - 2
			switch d.roll(5) {
			case 0, 1:
				come(t, x, n, plain.come(n))
			case 2, 3:
				read(t, x, n, plain.read(n))
			case 4:
				pay(t, x, plain.pay())
			}
			has(t, x, plain.holds, plain.owes)
		}
	}
}

// P17.3

func TestPay(t *testing.T) {
	for _, r := range rooms {
		for _, holds := range counts(r.counts) {
			for _, owes := range counts(r.counts - holds) {
				x := till(t, r.room, holds, owes)
				pay(t, x, owes)
				tillStays(t, x, r.counts, holds, 0)
				// A Pay behind a Pay.
				pay(t, x, 0)
				pay(t, x, 0)
				tillEnds(t, x, r.counts, holds, 0)
			}
		}
	}
}

func TestPayByHand(t *testing.T) {
	x := credit.NewTill(10)
	pay(t, x, 0)
	come(t, x, 10, api.OK)
	pay(t, x, 0)
	read(t, x, 3, api.OK)
	read(t, x, 4, api.OK)
	pay(t, x, 7)
	has(t, x, 3, 0)
	pay(t, x, 0)
	come(t, x, 8, api.ErrLimit)
	come(t, x, 7, api.OK)
	read(t, x, 10, api.OK)
	pay(t, x, 10)
	pay(t, x, 0)
	has(t, x, 0, 0)
	// It never pays more than once for what is read.
	for range 1000 {
		come(t, x, 10, api.OK)
		read(t, x, 10, api.OK)
		pay(t, x, 10)
		pay(t, x, 0)
	}
}

// Objects of all kinds.

func TestNilPurse(t *testing.T) {
	var p *credit.Purse
	for _, n := range edges() {
		use(t, p, n, api.ErrLimit)
		grant(t, p, n, api.ErrLimit)
		left(t, p, 0)
	}
}

func TestNilTill(t *testing.T) {
	var x *credit.Till
	for _, n := range edges() {
		come(t, x, n, api.ErrLimit)
		read(t, x, n, api.ErrLimit)
		has(t, x, 0, 0)
		pay(t, x, 0)
	}
}

// What New did not make has no room.
func TestPurseAndTillThatNewDidNotMake(t *testing.T) {
	p, x := &credit.Purse{}, new(credit.Till)
	for _, n := range edges() {
		use(t, p, n, (&plainPurse{}).use(n))
		grant(t, p, n, (&plainPurse{}).grant(n))
		left(t, p, 0)
		come(t, x, n, (&plainTill{}).come(n))
		read(t, x, n, (&plainTill{}).read(n))
		has(t, x, 0, 0)
		pay(t, x, 0)
	}
}

func TestManySideBySide(t *testing.T) {
	const many = 20
	d := dice(173)
	var purses [many]*credit.Purse
	var tills [many]*credit.Till
	var plainPurses [many]*plainPurse
	var plainTills [many]*plainTill
	for i := range many {
		room := 3 * (i / 2) // two of each room
		purses[i], plainPurses[i] = credit.NewPurse(room), newPlainPurse(room)
		tills[i], plainTills[i] = credit.NewTill(room), newPlainTill(room)
	}
	for range 5000 {
		i := d.roll(many)
		n := d.roll(plainPurses[i].room+3) - 1
		switch d.roll(5) {
		case 0:
			use(t, purses[i], n, plainPurses[i].use(n))
		case 1:
			grant(t, purses[i], n, plainPurses[i].grant(n))
		case 2:
			come(t, tills[i], n, plainTills[i].come(n))
		case 3:
			read(t, tills[i], n, plainTills[i].read(n))
		case 4:
			pay(t, tills[i], plainTills[i].pay())
		}
		for i := range many {
			left(t, purses[i], plainPurses[i].left)
			has(t, tills[i], plainTills[i].holds, plainTills[i].owes)
		}
	}
}

func TestExamples(t *testing.T) {
	p := credit.NewPurse(10)
	use(t, p, 4, api.OK)
	use(t, p, 7, api.ErrLimit)
	grant(t, p, 4, api.OK)
	grant(t, p, 1, api.ErrLimit)
	left(t, p, 10)
	x := credit.NewTill(10)
	come(t, x, 6, api.OK)
	come(t, x, 5, api.ErrLimit)
	read(t, x, 2, api.OK)
	pay(t, x, 2)
	come(t, x, 6, api.OK)
	has(t, x, 10, 0)
}
