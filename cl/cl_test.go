package cl_test

import (
	"math"
	"runtime"
	"slices"
	"strings"
	"testing"
	"unsafe"

	"partyline/api"
	"partyline/cl"
)

// wrong are limits that may not be: the least int, and such as would be others, if less than all of their bits were read.
var wrong = []int{math.MinInt, math.MinInt + 1, math.MinInt + 2, math.MinInt + 128, -1<<32 + 2, -1 << 32, math.MinInt32, -65534, -256, -254, -129, -128, -127, -3, -2, -1, 0, 1}

// right are limits that may be, each with what it counts as.
var right = []struct{ n1, counts int }{
	{2, 2}, {3, 3}, {4, 4}, {5, 5}, {8, 8}, {31, 31}, {63, 63}, {64, 64}, {65, 65}, {126, 126}, {127, 127}, {128, 128},
	{129, 128}, {130, 128}, {131, 128}, {255, 128}, {256, 128}, {257, 128}, {258, 128}, {999, 128}, {65536, 128}, {65538, 128},
	{math.MaxInt32, 128}, {1 << 32, 128}, {1<<32 + 1, 128}, {1<<32 + 2, 128}, {math.MaxInt - 1, 128}, {math.MaxInt, 128},
}

// bytesOf are n bytes of all kinds, head octets among them, in no plain order.
func bytesOf(n int) string {
	b := make([]byte, n)
	d := dice(n)
	for i := range b {
		b[i] = byte(d.roll(256))
		if d.roll(4) == 0 {
			b[i] = heads[d.roll(len(heads))]
		}
	}
	return string(b)
}

var heads = []byte{0x01, 0x41, 0x81, 0xC1}

// dice are numbers that follow no plain rule.
type dice uint32

func (d *dice) roll(n int) int {
	*d = *d*1664525 + 1013904223
	return int(*d>>8) % n
}

// sizes are a message's, for pieces of so many bytes: about as many as fill some pieces, and small and great ones.
func sizes(most int) []int {
	all := []int{0, 1, 2, 3, 5, 999, 1000, 1001, 4096, 5000}
	for _, k := range []int{1, 2, 3, 8} {
		all = append(all, k*most-1, k*most, k*most+1)
	}
	return all
}

// plainPieces are a message's, made by putting it down byte by byte, with a new piece at each one for which the last has no place.
func plainPieces(message string, n1 int) []string {
	rows := [][]byte{{0x01}}
	for i := range len(message) {
		at := len(rows) - 1
		if len(rows[at]) == n1 {
			rows = append(rows, []byte{0x01})
			at++
		}
		rows[at] = append(rows[at], message[i])
	}
	rows[0][0] += 0x80
	rows[len(rows)-1][0] += 0x40
	var all []string
	for _, row := range rows {
		all = append(all, string(row))
	}
	return all
}

// plainJoiner knows the four head octets by themselves.
type plainJoiner struct{ within bool }

func (p *plainJoiner) put(piece string) (string, bool, api.Errno) {
	if len(piece) == 0 {
		return "", false, api.ErrMessage
	}
	var starts, ends bool
	switch piece[0] {
	case 0x01:
	case 0x41:
		ends = true
	case 0x81:
		starts = true
	case 0xC1:
		starts, ends = true, true
	default:
		return "", false, api.ErrMessage
	}
	if starts && p.within || !starts && !p.within {
		return "", false, api.ErrState
	}
	p.within = !ends
	return piece[1:], ends, api.OK
}

// short is so much of a text as a person reads.
func short(s string) string {
	if len(s) > 40 {
		return s[:40] + ".."
	}
	return s
}

func split(t *testing.T, message string, n1 int, want ...string) {
	t.Helper()
	if l, e := cl.Split(message, n1); e != api.OK || !slices.Equal(l, want) {
		t.Fatalf("Split of %q (%d bytes) by %d: %d pieces, %q, %v; not %d, %q", short(message), len(message), n1, len(l), short(strings.Join(l, "|")), e, len(want), short(strings.Join(want, "|")))
	}
}

func mustSplit(t *testing.T, message string, n1 int) []string {
	t.Helper()
	l, e := cl.Split(message, n1)
	if e != api.OK {
		t.Fatalf("Split of %q by %d: %v", short(message), n1, e)
	}
	return l
}

func put(t *testing.T, j *cl.Joiner, piece, want string, wantEnds bool, wantE api.Errno) {
	t.Helper()
	if data, ends, e := j.Put(piece); data != want || ends != wantEnds || e != wantE {
		t.Fatalf("Put of %q: %q, %v, %v; not %q, %v, %v", short(piece), short(data), ends, e, short(want), wantEnds, wantE)
	}
}

func within(t *testing.T, j *cl.Joiner, want bool) {
	t.Helper()
	if j.Within() != want {
		t.Fatalf("within a message: %v", !want)
	}
}

// joiner is one between two messages, or within one.
func joiner(t *testing.T, inside bool) *cl.Joiner {
	t.Helper()
	j := cl.New()
	if inside {
		put(t, j, "\x81", "", false, api.OK)
	}
	within(t, j, inside)
	return j
}

// stays asks by all calls that a joiner is within a message, or is not. It is as it was then.
func stays(t *testing.T, j *cl.Joiner, inside bool) {
	t.Helper()
	within(t, j, inside)
	if inside {
		put(t, j, "\x81a", "", false, api.ErrState)
		put(t, j, "\xc1a", "", false, api.ErrState)
		put(t, j, "\x01a", "a", false, api.OK)
	} else {
		put(t, j, "\x01a", "", false, api.ErrState)
		put(t, j, "\x41a", "", false, api.ErrState)
		put(t, j, "\xc1a", "a", true, api.OK)
	}
	within(t, j, inside)
}

// P16.1

func TestSplitByHand(t *testing.T) {
	split(t, "", 2, "\xc1")
	split(t, "", 9, "\xc1")
	split(t, "", math.MaxInt, "\xc1")
	split(t, "a", 2, "\xc1a")
	split(t, "ab", 2, "\x81a", "\x41b")
	split(t, "abc", 2, "\x81a", "\x01b", "\x41c")
	split(t, "a", 3, "\xc1a")
	split(t, "ab", 3, "\xc1ab")
	split(t, "abc", 3, "\x81ab", "\x41c")
	split(t, "abcd", 3, "\x81ab", "\x41cd")
	split(t, "abcde", 3, "\x81ab", "\x01cd", "\x41e")
	split(t, "abcdefgh", 3, "\x81ab", "\x01cd", "\x01ef", "\x41gh")
	split(t, "\x81\x41\x01\xc1\x00\xff", 4, "\x81\x81\x41\x01", "\x41\xc1\x00\xff")
}

func TestSplitThroughout(t *testing.T) {
	for _, x := range right {
		for _, n := range sizes(x.counts - 1) {
			message := bytesOf(n)
			split(t, message, x.n1, plainPieces(message, x.counts)...)
		}
	}
}

func TestSplitOfEachSmallSize(t *testing.T) {
	for n1 := 2; n1 <= 20; n1++ {
		for n := range 70 {
			message := bytesOf(n)
			split(t, message, n1, plainPieces(message, n1)...)
		}
	}
	for n1 := 120; n1 <= 140; n1++ {
		for n := 110; n < 270; n++ {
			message := bytesOf(n)
			split(t, message, n1, plainPieces(message, min(n1, 128))...)
		}
	}
}

func TestSplitOfMuch(t *testing.T) {
	message := bytesOf(1 << 20)
	for _, n1 := range []int{2, 3, 128, 129, math.MaxInt} {
		split(t, message, n1, plainPieces(message, min(n1, 128))...)
	}
}

// About the greatest piece: 127 bytes of a message are one, 128 are two.
func TestSplitAboutTheGreatestPiece(t *testing.T) {
	for _, x := range []struct{ n1, n, pieces int }{
		{127, 126, 1}, {127, 127, 2}, {128, 126, 1}, {128, 127, 1}, {128, 128, 2}, {129, 127, 1}, {129, 128, 2}, {130, 127, 1}, {130, 128, 2}, {130, 129, 2},
		{128, 253, 2}, {128, 254, 2}, {128, 255, 3}, {129, 254, 2}, {129, 255, 3}, {129, 256, 3}, {math.MaxInt, 127, 1}, {math.MaxInt, 128, 2}, {math.MaxInt, 255, 3},
	} {
		if l := mustSplit(t, bytesOf(x.n), x.n1); len(l) != x.pieces {
			t.Errorf("%d bytes by %d are %d pieces", x.n, x.n1, len(l))
		}
	}
}

func TestSplitByWhatMayNotBe(t *testing.T) {
	for _, n1 := range wrong {
		for _, n := range []int{0, 1, 2, 127, 128, 129, 1000} {
			if l, e := cl.Split(bytesOf(n), n1); e != api.ErrArg || len(l) != 0 {
				t.Errorf("Split of %d bytes by %d: %d pieces, %v", n, n1, len(l), e)
			}
		}
	}
}

// What it answers hangs on nothing that was asked ahead.
func TestSplitAgain(t *testing.T) {
	for range 3 {
		split(t, "abc", 3, "\x81ab", "\x41c")
		if l, e := cl.Split("abc", 1); e != api.ErrArg || len(l) != 0 {
			t.Fatalf("by 1: %q, %v", l, e)
		}
		split(t, "abc", 2, "\x81a", "\x01b", "\x41c")
		split(t, "", 2, "\xc1")
	}
}

// P16.2

// Each octet at a piece's beginning, between two messages and within one, with bytes behind it and without.
func TestPutOfEachOctet(t *testing.T) {
	for octet := range 256 {
		for _, inside := range []bool{false, true} {
			for _, behind := range []string{"", "a", "\x81", "\x01\x41\xc1", bytesOf(127), bytesOf(128), bytesOf(1000)} {
				j, p := joiner(t, inside), plainJoiner{inside}
				piece := string([]byte{byte(octet)}) + behind
				data, ends, e := p.put(piece)
				put(t, j, piece, data, ends, e)
				stays(t, j, p.within)
			}
		}
	}
}

func TestPutOfHeadsByHand(t *testing.T) {
	for _, x := range []struct {
		inside bool
		piece  string
		data   string
		ends   bool
		e      api.Errno
		after  bool
	}{
		{false, "\x81ab", "ab", false, api.OK, true},
		{false, "\xc1ab", "ab", true, api.OK, false},
		{false, "\x01ab", "", false, api.ErrState, false},
		{false, "\x41ab", "", false, api.ErrState, false},
		{true, "\x01ab", "ab", false, api.OK, true},
		{true, "\x41ab", "ab", true, api.OK, false},
		{true, "\x81ab", "", false, api.ErrState, true},
		{true, "\xc1ab", "", false, api.ErrState, true},
		// A head octet alone.
		{false, "\x81", "", false, api.OK, true},
		{false, "\xc1", "", true, api.OK, false},
		{false, "\x01", "", false, api.ErrState, false},
		{false, "\x41", "", false, api.ErrState, false},
		{true, "\x01", "", false, api.OK, true},
		{true, "\x41", "", true, api.OK, false},
		{true, "\x81", "", false, api.ErrState, true},
		{true, "\xc1", "", false, api.ErrState, true},
		// What differs from a head octet in one bit, also such as would be there at the wrong time.
		{false, "\x80a", "", false, api.ErrMessage, false},
		{false, "\x03a", "", false, api.ErrMessage, false},
		{false, "\x11a", "", false, api.ErrMessage, false},
		{false, "\xe1a", "", false, api.ErrMessage, false},
		{true, "\xc3a", "", false, api.ErrMessage, true},
		{true, "\x91a", "", false, api.ErrMessage, true},
		{true, "\x00a", "", false, api.ErrMessage, true},
		{true, "\x40a", "", false, api.ErrMessage, true},
		// No byte.
		{false, "", "", false, api.ErrMessage, false},
		{true, "", "", false, api.ErrMessage, true},
	} {
		j := joiner(t, x.inside)
		put(t, j, x.piece, x.data, x.ends, x.e)
		stays(t, j, x.after)
	}
}

// However often something is refused, the joiner is as it was.
func TestPutOfManyThatAreNone(t *testing.T) {
	for _, inside := range []bool{false, true} {
		j := joiner(t, inside)
		for octet := range 256 {
			for _, behind := range []string{"", "ab"} {
				piece := string([]byte{byte(octet)}) + behind
				p := plainJoiner{inside}
				data, ends, e := p.put(piece)
				if e == api.OK {
					continue
				}
				put(t, j, piece, data, ends, e)
				put(t, j, "", "", false, api.ErrMessage)
				within(t, j, inside)
			}
		}
		stays(t, j, inside)
	}
}

// A piece that comes may be of any size: no limit holds there.
func TestPutOfLongPieces(t *testing.T) {
	j := cl.New()
	for _, n := range []int{127, 128, 129, 4096, 4097, 1 << 20} {
		s := bytesOf(n)
		put(t, j, "\xc1"+s, s, true, api.OK)
		put(t, j, "\x81"+s, s, false, api.OK)
		put(t, j, "\x01"+s, s, false, api.OK)
		put(t, j, "\x41"+s, s, true, api.OK)
	}
	within(t, j, false)
}

func TestPutOfManyPiecesOfOneMessage(t *testing.T) {
	j := cl.New()
	put(t, j, "\x81x", "x", false, api.OK)
	for range 10000 {
		put(t, j, "\x01y", "y", false, api.OK)
		put(t, j, "\x01", "", false, api.OK)
		within(t, j, true)
	}
	put(t, j, "\x41", "", true, api.OK)
	within(t, j, false)
}

func TestNilJoiner(t *testing.T) {
	var j *cl.Joiner
	put(t, j, "", "", false, api.ErrNil)
	for octet := range 256 {
		put(t, j, string([]byte{byte(octet)}), "", false, api.ErrNil)
		put(t, j, string([]byte{byte(octet)})+"ab", "", false, api.ErrNil)
		within(t, j, false)
	}
}

func TestJoinerThatNewDidNotMake(t *testing.T) {
	stays(t, new(cl.Joiner), false)
	j := &cl.Joiner{}
	put(t, j, "\x81a", "a", false, api.OK)
	stays(t, j, true)
}

func TestJoinersAreApart(t *testing.T) {
	a, b := cl.New(), cl.New()
	put(t, a, "\x81a", "a", false, api.OK)
	stays(t, b, false)
	stays(t, cl.New(), false)
	put(t, b, "\x81b", "b", false, api.OK)
	put(t, a, "\x41c", "c", true, api.OK)
	stays(t, b, true)
	stays(t, a, false)
}

// All rows of five pieces, good ones and others, held against the plain joiner.
func TestPutOfAllShortRows(t *testing.T) {
	pieces := []string{"\x01a", "\x41b", "\x81c", "\xc1d", "\x81", "\x41", "", "\x82e", "\xc0"}
	const long = 5
	rows := 1
	for range long {
		rows *= len(pieces)
	}
	for row := range rows {
		j, p := cl.New(), plainJoiner{}
		for range long {
			piece := pieces[row%len(pieces)]
			row /= len(pieces)
			data, ends, e := p.put(piece)
			put(t, j, piece, data, ends, e)
			within(t, j, p.within)
		}
	}
}

func TestPutAsItFalls(t *testing.T) {
	d := dice(16)
	j, p := cl.New(), plainJoiner{}
	for range 100000 {
		piece := bytesOf(d.roll(20))
		if d.roll(4) > 0 {
			piece = string(heads[d.roll(len(heads)):][:1]) + piece
		}
		data, ends, e := p.put(piece)
		put(t, j, piece, data, ends, e)
		within(t, j, p.within)
	}
}

// P16.3

func TestWithin(t *testing.T) {
	j := cl.New()
	for _, x := range []struct {
		piece  string
		within bool
	}{{"", false}, {"\x01a", false}, {"\x41a", false}, {"\xc1a", false}, {"\x00", false}, {"\x81a", true}, {"\x81a", true}, {"\xc1a", true}, {"", true}, {"\x82", true}, {"\x01a", true}, {"\x41a", false}, {"\x41a", false}, {"\x81", true}, {"\x41", false}, {"\xc1", false}} {
		j.Put(x.piece)
		for range 3 {
			if j.Within() != x.within {
				t.Fatalf("behind %q: %v", x.piece, !x.within)
			}
		}
	}
	if cl.New().Within() {
		t.Error("at first it is between two messages")
	}
}

// P16.4

// borrowed is a text that the test may write to behind the call that it was handed to.
func borrowed(s string) ([]byte, string) {
	b := []byte(s)
	return b, unsafe.String(unsafe.SliceData(b), len(b))
}

func TestMessageIsOnlyReadAndNotKept(t *testing.T) {
	for _, n1 := range []int{1, 2, 3, 64, 128, math.MaxInt} {
		for _, n := range []int{1, 2, 3, 127, 128, 1000} {
			was := bytesOf(n)
			b, message := borrowed(was)
			l, _ := cl.Split(message, n1)
			if string(b) != was {
				t.Fatalf("by %d: a message of %d bytes was changed", n1, n)
			}
			clear(b)
			if n1 > 1 && !slices.Equal(l, plainPieces(was, min(n1, 128))) {
				t.Fatalf("by %d: pieces of a message of %d bytes changed with it", n1, n)
			}
		}
	}
}

func TestPieceIsOnlyReadAndNotKept(t *testing.T) {
	for octet := range 256 {
		for _, inside := range []bool{false, true} {
			was := string([]byte{byte(octet)}) + "\x81bc"
			b, piece := borrowed(was)
			j, p := joiner(t, inside), plainJoiner{inside}
			want, wantEnds, wantE := p.put(was)
			data, ends, e := j.Put(piece)
			if string(b) != was {
				t.Fatalf("%q was changed", was)
			}
			clear(b)
			if data != want || ends != wantEnds || e != wantE {
				t.Fatalf("%q: the answer became %q, %v, %v", was, data, ends, e)
			}
			stays(t, j, p.within)
		}
	}
}

// What is answered is the caller's to change.
func TestNextAnswerIsNotChanged(t *testing.T) {
	for _, message := range []string{"", "a", "abcde", bytesOf(1000)} {
		for _, n1 := range []int{2, 3, 128, 129} {
			want := plainPieces(message, min(n1, 128))
			l := mustSplit(t, message, n1)
			other := mustSplit(t, message, n1)
			for i := range l {
				l[i] = "changed"
			}
			l = l[:cap(l)]
			clear(l)
			if !slices.Equal(other, want) {
				t.Fatalf("%q by %d: an answer changed with another one", short(message), n1)
			}
			split(t, message, n1, want...)
		}
	}
}

// apart asks that no two of the texts have a byte of memory in common.
func apart(t *testing.T, all ...string) {
	t.Helper()
	for i, a := range all {
		for _, b := range all[:i] {
			from, other := uintptr(unsafe.Pointer(unsafe.StringData(a))), uintptr(unsafe.Pointer(unsafe.StringData(b)))
			if a != "" && b != "" && from < other+uintptr(len(b)) && other < from+uintptr(len(a)) {
				t.Fatalf("%q and %q share memory", short(a), short(b))
			}
		}
	}
}

func TestAnswersAreNewMemory(t *testing.T) {
	message := bytesOf(300)
	all := []string{message}
	for _, n1 := range []int{2, 3, 128, 999} {
		for _, n := range []int{0, 1, 2, 127, 128, 300} {
			all = append(all, mustSplit(t, message[:n], n1)...)
			all = append(all, mustSplit(t, message[:n], n1)...)
		}
	}
	piece := "\xc1" + message
	all = append(all, piece)
	j := cl.New()
	for range 3 {
		data, _, _ := j.Put(piece)
		all = append(all, data)
		data, _, _ = j.Put(piece[:3])
		all = append(all, data)
		data, _, _ = j.Put(piece[:2])
		all = append(all, data)
	}
	apart(t, all...)
}

// heap is how many bytes are in use when all that nobody keeps has gone.
func heap() int {
	var m runtime.MemStats
	runtime.GC()
	runtime.GC()
	runtime.ReadMemStats(&m)
	return int(m.HeapAlloc)
}

// Neither one piece of a great message nor a joiner keeps the rest of it.
func TestNothingElseIsKept(t *testing.T) {
	const great, many = 1 << 20, 40
	var kept []string
	joiners := make([]*cl.Joiner, many)
	before := heap()
	for i := range many {
		message := strings.Repeat(string([]byte{byte(i)}), great)
		kept = append(kept, mustSplit(t, message, 128)[i])
		joiners[i] = cl.New()
		joiners[i].Put("\x81" + message)
	}
	if grown := heap() - before; grown > great*many/4 {
		t.Errorf("%d pieces and joiners keep %d bytes", many, grown)
	}
	for i, s := range kept {
		if s[1:] != strings.Repeat(string([]byte{byte(i)}), 127) {
			t.Fatalf("%q is kept", s)
		}
		stays(t, joiners[i], true)
	}
}

// P16.5

// joined puts a message's pieces by a joiner that is between two messages, and asks for all that follows of them.
func joined(t *testing.T, j *cl.Joiner, message string, n1 int) {
	t.Helper()
	counts := min(n1, 128)
	l := mustSplit(t, message, n1)
	got := ""
	for i, piece := range l {
		within(t, j, i > 0)
		if len(piece) > counts {
			t.Fatalf("by %d: a piece has %d bytes", n1, len(piece))
		}
		data, ends, e := j.Put(piece)
		if e != api.OK || ends != (i == len(l)-1) {
			t.Fatalf("by %d: piece %d of %d: %v, %v", n1, i, len(l), ends, e)
		}
		got += data
	}
	within(t, j, false)
	if got != message {
		t.Fatalf("%q by %d: joined it is %q", short(message), n1, short(got))
	}
	// With one piece less not all of its bytes have a place.
	if len(l) != 1 && (len(l)-1)*(counts-1) >= len(message) {
		t.Fatalf("%d bytes by %d: %d pieces", len(message), n1, len(l))
	}
}

func TestSplitIsJoined(t *testing.T) {
	j := cl.New()
	for _, x := range right {
		for _, n := range sizes(x.counts - 1) {
			joined(t, cl.New(), bytesOf(n), x.n1)
			joined(t, j, bytesOf(n), x.n1)
		}
	}
	for n1 := 2; n1 <= 130; n1++ {
		for n := range 150 {
			joined(t, j, bytesOf(n), n1)
		}
	}
}

func TestMessagesAsTheyFallAreJoined(t *testing.T) {
	d := dice(5)
	j := cl.New()
	for range 3000 {
		joined(t, j, bytesOf(d.roll(400)), right[d.roll(len(right))].n1)
		if d.roll(3) == 0 {
			put(t, j, "\x01a", "", false, api.ErrState)
			put(t, j, "\x11\x00\x01", "", false, api.ErrMessage)
		}
	}
}

// Pieces that are refused, within a message as well, leave it whole.
func TestRefusedPiecesLeaveTheMessageWhole(t *testing.T) {
	const message = "abcdefg"
	j := cl.New()
	got := ""
	for _, piece := range mustSplit(t, message, 3) {
		for _, none := range []string{"", "\x00x", "\x21x", "\xc5x"} {
			put(t, j, none, "", false, api.ErrMessage)
		}
		if j.Within() {
			put(t, j, "\x81x", "", false, api.ErrState)
			put(t, j, "\xc1x", "", false, api.ErrState)
		} else {
			put(t, j, "\x01x", "", false, api.ErrState)
			put(t, j, "\x41x", "", false, api.ErrState)
		}
		data, _, e := j.Put(piece)
		if e != api.OK {
			t.Fatalf("%q: %v", piece, e)
		}
		got += data
	}
	if got != message || j.Within() {
		t.Errorf("joined it is %q", got)
	}
}

// A message with a piece that was lost, doubled, or turned about is told where it can be: by the pieces ahead and behind.
func TestPiecesOutOfPlace(t *testing.T) {
	l := mustSplit(t, "abcde", 3)
	j := cl.New()
	put(t, j, l[1], "", false, api.ErrState)
	put(t, j, l[2], "", false, api.ErrState)
	put(t, j, l[0], "ab", false, api.OK)
	put(t, j, l[0], "", false, api.ErrState)
	put(t, j, l[1], "cd", false, api.OK)
	put(t, j, l[0], "", false, api.ErrState)
	put(t, j, l[2], "e", true, api.OK)
	put(t, j, l[2], "", false, api.ErrState)
	stays(t, j, false)
}

// The chapter's examples.
func TestExamples(t *testing.T) {
	split(t, "abcde", 3, "\x81ab", "\x01cd", "\x41e")
	split(t, "ab", 3, "\xc1ab")
	split(t, "", 9, "\xc1")
	put(t, cl.New(), "\x01a", "", false, api.ErrState)
	j := cl.New()
	put(t, j, "\x81a", "a", false, api.OK)
	put(t, j, "\x81b", "", false, api.ErrState)
	put(t, cl.New(), "\x02a", "", false, api.ErrMessage)
}
