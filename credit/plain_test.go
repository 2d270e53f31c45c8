package credit_test

import (
	"math/big"

	"partyline/api"
)

// The plain purse and till are the chapter's words, with numbers of any size, so that no sum goes round.

func number(n int) *big.Int { return big.NewInt(int64(n)) }

// exceeds asks whether a and b together are more than c.
func exceeds(a, b, c int) bool { return new(big.Int).Add(number(a), number(b)).Cmp(number(c)) > 0 }

// plainRoom is a room within its bounds.
func plainRoom(room int) int {
	if room < 1 {
		return 1
	}
	if room > 4096 {
		return 4096
	}
	return room
}

type plainPurse struct{ room, left int }

func newPlainPurse(room int) *plainPurse { return &plainPurse{plainRoom(room), plainRoom(room)} }

func (p *plainPurse) use(n int) api.Errno {
	if n < 0 {
		return api.ErrArg
	}
	if n > p.left {
		return api.ErrLimit
	}
	p.left -= n
	return api.OK
}

func (p *plainPurse) grant(n int) api.Errno {
	if n < 0 {
		return api.ErrArg
	}
	if exceeds(p.left, n, p.room) {
		return api.ErrLimit
	}
	p.left += n
	return api.OK
}

type plainTill struct{ room, holds, owes int }

func newPlainTill(room int) *plainTill { return &plainTill{room: plainRoom(room)} }

func (t *plainTill) come(n int) api.Errno {
	if n < 0 {
		return api.ErrArg
	}
	if exceeds(t.holds+t.owes, n, t.room) {
		return api.ErrLimit
	}
	t.holds += n
	return api.OK
}

func (t *plainTill) read(n int) api.Errno {
	if n < 0 {
		return api.ErrArg
	}
	if n > t.holds {
		return api.ErrLimit
	}
	t.holds -= n
	t.owes += n
	return api.OK
}

func (t *plainTill) pay() int {
	n := t.owes
	t.owes = 0
	return n
}
