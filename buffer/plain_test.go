package buffer_test

import (
	"math"
	"slices"
)

// plainBuffer is the chapter's words: a plain row of bytes, from which the first ones are taken.
type plainBuffer struct {
	room, mark int
	row        string
}

func (p *plainBuffer) free() int { return p.room - len(p.row) }

func (p *plainBuffer) put(data string) int {
	n := 0
	for n < len(data) && n < p.free() {
		n++
	}
	p.row += data[:n]
	return n
}

func (p *plainBuffer) get(most int) string {
	if most < 0 {
		most = 0
	}
	if most > len(p.row) {
		most = len(p.row)
	}
	s := p.row[:most]
	p.row = p.row[most:]
	return s
}

func (p *plainBuffer) high() bool { return p.free() < p.mark }

func (p *plainBuffer) low() bool { return p.row == "" || p.free() >= p.mark+p.mark }

// rooms are such as may be: small ones, the greatest ones, and those about the powers of two.
var rooms = []int{1, 2, 3, 4, 5, 10, 64, 127, 128, 255, 256, 257, 4094, 4095, 4096}

// noRooms are such as may not be; among them some that might be, if less than all of their bits were read.
var noRooms = []int{
	math.MinInt, math.MinInt + 1, math.MinInt + 10, -1<<32 + 10, math.MinInt32, -65526, -4097, -4096, -256, -5, -2, -1, 0,
	4097, 4098, 8192, 65535, 65536, 65546, math.MaxInt32, 1 << 32, 1<<32 + 10, math.MaxInt - 1, math.MaxInt,
}

// dice are numbers that follow no plain rule.
type dice uint32

func (d *dice) roll(n int) int {
	*d = *d*1664525 + 1013904223
	return int(*d>>8) % n
}

// edges are the numbers about those that stand, and the least and the greatest ones, with which a sum would go round.
func edges(about ...int) []int {
	all := []int{
		math.MinInt, math.MinInt + 1, math.MinInt + 4096, -1<<32 + 1, -1 << 32, math.MinInt32, -65535, -4097, -4096, -256, -255, -2, -1, 0, 1, 2,
		255, 256, 257, 4095, 4096, 4097, 65536, 65537, math.MaxInt32, math.MaxInt32 + 1, 1 << 32, 1<<32 + 1, math.MaxInt - 4096, math.MaxInt - 1, math.MaxInt,
	}
	for _, n := range about {
		all = append(all, n-1, n, n+1, -n, n+1<<32, math.MaxInt-n, math.MinInt+n)
	}
	slices.Sort(all)
	return slices.Compact(all)
}

// counts are some from 0 to the most: none, few, half, and all but few.
func counts(most int) []int {
	return within(most, 0, 1, 2, most/2, most-2, most-1, most)
}

// marks are some that may be in a room: counts, and those about its half.
func marks(room int) []int {
	return append(within(room, room/2-1, room/2+1), counts(room)...)
}

// places are some of a ring, its ends among them.
func places(room int) []int { return counts(room - 1) }

// within are those of some numbers that are from 0 to the most, rising.
func within(most int, some ...int) []int {
	slices.Sort(some)
	return slices.DeleteFunc(slices.Compact(some), func(n int) bool { return n < 0 || n > most })
}

// bytesFrom are n bytes of a row that begins anew after 251 of them: no room of the tests is a multiple of that, so that a byte out of its place is seen.
func bytesFrom(start, n int) string {
	b := make([]byte, n)
	for i := range b {
		b[i] = byte((start + i) % 251)
	}
	return string(b)
}
