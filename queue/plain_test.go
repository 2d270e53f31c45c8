package queue_test

import (
	"math"
	"slices"
)

// plainQueue is the chapter's words: a plain row of bytes, from which the first ones are taken.
type plainQueue struct {
	room int
	row  string
}

// plainRoom is a room within its bounds.
func plainRoom(room int) int {
	if room < 1 {
		return 1
	}
	if room > 4096 {
		return 4096
	}
	return room
}

func newPlain(room int) *plainQueue { return &plainQueue{room: plainRoom(room)} }

func (p *plainQueue) free() int { return p.room - len(p.row) }

func (p *plainQueue) put(s string) int {
	n := 0
	for n < len(s) && n < p.free() {
		n++
	}
	p.row += s[:n]
	return n
}

func (p *plainQueue) peek(n int) string {
	if n < 1 {
		return ""
	}
	if n > len(p.row) {
		return p.row
	}
	return p.row[:n]
}

func (p *plainQueue) next(n int) string {
	s := p.peek(n)
	p.row = p.row[len(s):]
	return s
}

func (p *plainQueue) clear() int {
	n := len(p.row)
	p.row = ""
	return n
}

// rooms are such as are brought into their bounds, and such as stay; among them some that would be others, if less than all of their bits were read.
var rooms = []struct{ room, counts int }{
	{math.MinInt, 1}, {math.MinInt + 1, 1}, {math.MinInt + 10, 1}, {-1<<32 + 10, 1}, {math.MinInt32, 1}, {-65526, 1}, {-4097, 1}, {-4096, 1}, {-256, 1}, {-5, 1}, {-2, 1}, {-1, 1}, {0, 1},
	{1, 1}, {2, 2}, {3, 3}, {5, 5}, {10, 10}, {64, 64}, {127, 127}, {128, 128}, {255, 255}, {256, 256}, {257, 257}, {4094, 4094}, {4095, 4095}, {4096, 4096},
	{4097, 4096}, {4098, 4096}, {8192, 4096}, {65535, 4096}, {65536, 4096}, {65546, 4096}, {math.MaxInt32, 4096}, {1 << 32, 4096}, {1<<32 + 10, 4096}, {math.MaxInt - 1, 4096}, {math.MaxInt, 4096},
}

// dice are numbers that follow no plain rule.
type dice uint32

func (d *dice) roll(n int) int {
	*d = *d*1664525 + 1013904223
	return int(*d>>8) % n
}

// edges are the numbers about those that stand, and the least and the greatest ones, with which a sum would go round.
func edges(about ...int) []int {
	all := []int{
		math.MinInt, math.MinInt + 1, math.MinInt + 4096, -1<<32 + 1, -1 << 32, math.MinInt32, -65535, -4097, -4096, -256, -255, -2, -1, 0, 1, 2,
		255, 256, 257, 4095, 4096, 4097, 65536, 65537, math.MaxInt32, math.MaxInt32 + 1, 1 << 32, 1<<32 + 1, math.MaxInt - 4096, math.MaxInt - 1, math.MaxInt,
	}
	for _, n := range about {
		all = append(all, n-1, n, n+1, -n, n+1<<32, math.MaxInt-n, math.MinInt+n)
	}
	slices.Sort(all)
	return slices.Compact(all)
}

// counts are some from 0 to the most: none, few, half, and all but few.
func counts(most int) []int {
	all := []int{0, 1, 2, most / 2, most - 2, most - 1, most}
	slices.Sort(all)
	return slices.DeleteFunc(slices.Compact(all), func(n int) bool { return n < 0 || n > most })
}

// bytesFrom are n bytes of a row that begins anew after 251 of them: no room of the tests is a multiple of that, so that a byte out of its place is seen.
func bytesFrom(start, n int) string {
	b := make([]byte, n)
	for i := range b {
		b[i] = byte((start + i) % 251)
	}
	return string(b)
}
