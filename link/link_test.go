package link_test

import (
	"math"
	"math/rand"
	"slices"
	"strconv"
	"testing"

	"partyline/api"
	"partyline/link"
)

// What is done to a link, in tests.
const (
	open uint8 = iota
	shut
	due
	hear
	listen
	deaf
)

// event is what is done; the fields behind what are those of a frame that is heard.
type event struct {
	what        uint8
	kind        uint8
	pf, command bool
}

// do does it.
func do(l *link.Link, e event) link.Act {
	switch e.what {
	case open:
		return l.Open()
	case shut:
		return l.Close()
	case due:
		return l.Due()
	case hear:
		return l.Hear(e.kind, e.pf, e.command)
	case listen:
		l.Listen(true)
	case deaf:
		l.Listen(false)
	}
	return link.Act{}
}

// row is a row of the chapter's table: in these states, when it hears a frame of these kinds, or is done what else stands there, and if the row's own question holds.
type row struct {
	states []uint8
	what   uint8
	kinds  []uint8
	holds  func(m *model, e event) bool

	says  uint8 // what it says: a SABM or DISC is a command with the bit, an UA or DM a response with the bit of the frame
	then  uint8 // 0: the same
	tries int   // what becomes of the tries: none any more, or one more
	timer uint8
	fact  uint8
}

const (
	none = 1
	more = 2
)

func always(*model, event) bool             { return true }
func listens(m *model, _ event) bool        { return m.listens }
func deafTo(m *model, _ event) bool         { return !m.listens }
func withBit(_ *model, e event) bool        { return e.pf }
func fewerTries(m *model, _ event) bool     { return m.tries < m.n2 }
func noFewerTries(m *model, _ event) bool   { return m.tries >= m.n2 }
func kinds(k ...uint8) []uint8              { return k }
func states(s ...uint8) []uint8             { return s }
func response(k uint8, pf bool) link.Act    { return link.Act{Kind: k, PF: pf} }
func says(m link.Act, fact uint8) link.Act  { m.Fact = fact; return m }
func ends(m link.Act, fact uint8) link.Act  { m.Timer, m.Fact = link.End, fact; return m }
func command(k uint8) link.Act              { return link.Act{Kind: k, Command: true, PF: true, Timer: link.Begin} }
func frame(k uint8, pf, command bool) event { return event{hear, k, pf, command} }

// table is the chapter's, row by row.
var table = []row{
	{states(link.Down, link.Failed), open, nil, always, api.SABM, link.Opening, none, link.Begin, 0},
	{states(link.Down, link.Failed), hear, kinds(api.SABM), listens, api.UA, link.Up, 0, 0, link.Asked},
	{states(link.Down, link.Failed), hear, kinds(api.SABM), deafTo, api.DM, 0, 0, 0, 0},
	{states(link.Down, link.Failed), hear, kinds(api.DISC), always, api.DM, 0, 0, 0, 0},
	{states(link.Down, link.Failed), hear, kinds(api.UIH, api.UI, api.I, api.RR, api.RNR, api.REJ), withBit, api.DM, 0, 0, 0, 0},
	{states(link.Opening), hear, kinds(api.UA), withBit, 0, link.Up, 0, link.End, link.Opened},
	{states(link.Opening), hear, kinds(api.DM), withBit, 0, link.Down, 0, link.End, link.Refused},
	{states(link.Opening), hear, kinds(api.SABM), always, api.UA, link.Opening, 0, 0, 0},
	{states(link.Opening), hear, kinds(api.DISC), always, api.DM, link.Down, 0, link.End, link.Refused},
	{states(link.Opening), due, nil, fewerTries, api.SABM, link.Opening, more, link.Begin, 0},
	{states(link.Up), hear, kinds(api.SABM), always, api.UA, link.Up, 0, 0, link.Again},
	{states(link.Up), hear, kinds(api.DISC), always, api.UA, link.Down, 0, 0, link.Closed},
	{states(link.Up), hear, kinds(api.DM), always, 0, link.Down, 0, 0, link.Closed},
	{states(link.Opening, link.Up), shut, nil, always, api.DISC, link.Closing, none, link.Begin, 0},
	{states(link.Closing), hear, kinds(api.UA, api.DM), withBit, 0, link.Down, 0, link.End, link.Closed},
	{states(link.Closing), hear, kinds(api.SABM), always, api.DM, link.Closing, 0, 0, 0},
	{states(link.Closing), hear, kinds(api.DISC), always, api.UA, link.Closing, 0, 0, 0},
	{states(link.Closing), due, nil, fewerTries, api.DISC, link.Closing, more, link.Begin, 0},
	{states(link.Opening, link.Closing), due, nil, noFewerTries, 0, link.Failed, 0, link.End, link.Broken},
}

// model is a link by the table.
type model struct {
	state     uint8
	listens   bool
	tries, n2 int
}

func newModel(n2 int) *model {
	if n2 < 0 {
		n2 = 0
	}
	if n2 > 255 {
		n2 = 255
	}
	return &model{state: link.Down, n2: n2}
}

// may asks whether the frame that is heard is one at all; it asks nothing of what is no frame.
func (e event) may() bool {
	if e.what != hear {
		return true
	}
	switch e.kind {
	case api.SABM, api.DISC:
		return e.command
	case api.UA, api.DM:
		return !e.command
	case api.UIH, api.UI, api.I, api.RR, api.RNR, api.REJ:
		return e.command // no row knows them as responses
	}
	return false
}

// is asks whether it is the row of that event.
func (r row) is(m *model, e event) bool {
	if !slices.Contains(r.states, m.state) || r.what != e.what || !e.may() {
		return false
	}
	if e.what == hear && !slices.Contains(r.kinds, e.kind) {
		return false
	}
	return r.holds(m, e)
}

// do does the event by the one row that it has, or by none.
func (m *model) do(e event) link.Act {
	switch e.what {
	case listen, deaf:
		m.listens = e.what == listen
		return link.Act{}
	}
	for _, r := range table {
		if r.is(m, e) {
			return m.doRow(r, e)
		}
	}
	return link.Act{}
}

func (m *model) doRow(r row, e event) link.Act {
	a := link.Act{Kind: r.says, Timer: r.timer, Fact: r.fact}
	switch r.says {
	case api.SABM, api.DISC:
		a.Command, a.PF = true, true
	case api.UA, api.DM:
		a.PF = e.pf
	}
	if r.then != 0 {
		m.state = r.then
	}
	switch r.tries {
	case none:
		m.tries = 0
	case more:
		m.tries++
	}
	return a
}

// someKinds are all that there are, and some that are none.
var someKinds = []uint8{0, api.SABM, api.UA, api.DM, api.DISC, api.UIH, api.UI, api.I, api.RR, api.RNR, api.REJ, 11, 12, 127, 128, 129, 132, 255}

// events are all that may be done, with frames of these kinds.
func events(kinds []uint8) []event {
	es := []event{{what: open}, {what: shut}, {what: due}, {what: listen}, {what: deaf}}
	for _, k := range kinds {
		for i := range 4 {
			es = append(es, frame(k, i&1 != 0, i&2 != 0))
		}
	}
	return es
}

// ways lead a new link, of any N2, to each state; one of N2 255 fails after 256 times.
func ways(n2 int) map[string][]event {
	fails := slices.Repeat([]event{{what: due}}, newModel(n2).n2+1)
	opens, closes := event{what: open}, event{what: shut}
	ua, sabm := frame(api.UA, true, false), frame(api.SABM, true, true)
	return map[string][]event{
		"Down":                          nil,
		"Down, refused":                 {opens, frame(api.DM, true, false)},
		"Down, closed":                  {opens, ua, closes, ua},
		"Opening":                       {opens},
		"Opening, tried once":           {opens, {what: due}},
		"Up":                            {opens, ua},
		"Up, asked":                     {{what: listen}, sabm},
		"Closing":                       {opens, ua, closes},
		"Closing, that was never Up":    {opens, closes},
		"Closing, tried once":           {opens, ua, closes, {what: due}},
		"Failed, nobody answered SABM":  append([]event{opens}, fails...),
		"Failed, nobody answered DISC":  append([]event{opens, closes}, fails...),
		"Opening, once more, of Failed": append(append([]event{opens}, fails...), opens),
	}
}

// same does an event to both, and tells whether they answer alike, and are in one state.
func same(l *link.Link, m *model, e event) bool {
	return do(l, e) == m.do(e) && l.State() == m.state
}

// edges are N2s: the least and the greatest int, and those about the bounds.
var edges = []int{math.MinInt, math.MinInt32, -256, -255, -1, 0, 1, 2, 3, 254, 255, 256, 257, 511, 512, 65536, math.MaxInt32, math.MaxInt}

// P14.1

func TestNewIsDown(t *testing.T) {
	for _, n2 := range edges {
		l := link.New(n2)
		if l == nil || l.State() != link.Down {
			t.Errorf("New(%d) is not Down", n2)
			continue
		}
		if a := l.Hear(api.SABM, true, true); a != response(api.DM, true) || l.State() != link.Down {
			t.Errorf("New(%d) listens: %v", n2, a)
		}
	}
}

func TestListenAndNoMore(t *testing.T) {
	for _, pf := range []bool{false, true} {
		l := link.New(2)
		l.Listen(true)
		if l.State() != link.Down {
			t.Error("one that listens is not Down")
		}
		l.Listen(true)
		l.Listen(false)
		if a := l.Hear(api.SABM, pf, true); a != response(api.DM, pf) || l.State() != link.Down {
			t.Errorf("it listens no more: %v", a)
		}
		l.Listen(false)
		l.Listen(true)
		if a := l.Hear(api.SABM, pf, true); a != says(response(api.UA, pf), link.Asked) || l.State() != link.Up {
			t.Errorf("it listens: %v", a)
		}
	}
}

func TestListenHoldsFromThenOn(t *testing.T) {
	l := link.New(0)
	l.Open()
	l.Listen(true)
	l.Due()
	if a := l.Hear(api.SABM, true, true); a != says(response(api.UA, true), link.Asked) {
		t.Errorf("it was told to listen while Opening, and Failed: %v", a)
	}
	l.Hear(api.DISC, true, true)
	if a := l.Hear(api.SABM, false, true); a != says(response(api.UA, false), link.Asked) {
		t.Errorf("it was closed, and asked again: %v", a)
	}
	l.Listen(false)
	if a := l.Hear(api.SABM, true, true); a != says(response(api.UA, true), link.Again) || l.State() != link.Up {
		t.Errorf("what is Up is not asked whether it listens: %v", a)
	}
	l.Hear(api.DM, true, false)
	if a := l.Hear(api.SABM, true, true); a != response(api.DM, true) {
		t.Errorf("it listens no more: %v", a)
	}
}

func TestConstants(t *testing.T) {
	if got := states(link.Down, link.Opening, link.Up, link.Closing, link.Failed); !slices.Equal(got, []uint8{1, 2, 3, 4, 5}) {
		t.Errorf("states: %v", got)
	}
	if got := []uint8{link.Begin, link.End}; !slices.Equal(got, []uint8{1, 2}) {
		t.Errorf("timer: %v", got)
	}
	if got := []uint8{link.Opened, link.Asked, link.Again, link.Refused, link.Closed, link.Broken}; !slices.Equal(got, []uint8{1, 2, 3, 4, 5, 6}) {
		t.Errorf("facts: %v", got)
	}
}

// P14.2

// allKinds are all octets.
func allKinds() []uint8 {
	var ks []uint8
	for k := range 256 {
		ks = append(ks, uint8(k))
	}
	return ks
}

func TestEachStateWithEachEvent(t *testing.T) {
	es := events(allKinds())
	for _, n2 := range []int{-1, 0, 1, 2, 255} {
		for name, way := range ways(n2) {
			for _, first := range []uint8{listen, deaf} {
				for _, e := range es {
					l, m := link.New(n2), newModel(n2)
					for _, w := range append(slices.Clip(way), event{what: first}) {
						if !same(l, m, w) {
							t.Fatalf("N2 %d, on the way to %s: %+v", n2, name, w)
						}
					}
					if !same(l, m, e) {
						t.Fatalf("N2 %d, %s, %d: %+v", n2, name, first, e)
					}
				}
			}
		}
	}
}

// walk does each event behind each other one, depth of them, and holds the link against the model.
func walk(t *testing.T, l link.Link, m model, es []event, depth int, trail []event) {
	for _, e := range es {
		next, nextModel := l, m
		if !same(&next, &nextModel, e) {
			t.Fatalf("N2 %d: %+v, then %+v", m.n2, trail, e)
		}
		if depth > 1 {
			walk(t, next, nextModel, es, depth-1, append(slices.Clip(trail), e))
		}
	}
}

func TestEachEventBehindEachOther(t *testing.T) {
	es := events([]uint8{0, api.SABM, api.UA, api.DM, api.DISC, api.UIH, api.I, api.REJ, 11})
	for n2 := range 3 {
		walk(t, *link.New(n2), *newModel(n2), es, 3, nil)
		for _, way := range ways(n2) {
			l, m := link.New(n2), newModel(n2)
			for _, e := range way {
				same(l, m, e)
			}
			walk(t, *l, *m, es, 2, way)
		}
	}
}

func TestLongWalks(t *testing.T) {
	es := events(someKinds)
	often := []event{{what: open}, {what: shut}, {what: due}, {what: due}, {what: due}, {what: listen}, frame(api.SABM, true, true), frame(api.UA, true, false)}
	r := rand.New(rand.NewSource(14))
	for _, n2 := range edges {
		l, m := link.New(n2), newModel(n2)
		for i := range 20000 {
			e := es[r.Intn(len(es))]
			if r.Intn(2) == 0 {
				e = often[r.Intn(len(often))]
			}
			if !same(l, m, e) {
				t.Fatalf("N2 %d, event %d: %+v in %d", n2, i, e, m.state)
			}
		}
	}
}

func TestWhileDown(t *testing.T) {
	for _, failed := range []bool{false, true} {
		made := func(listens bool) *link.Link {
			l := link.New(0)
			if failed {
				l.Open()
				l.Due()
			}
			l.Listen(listens)
			return l
		}
		state := made(false).State()
		for _, pf := range []bool{false, true} {
			for _, k := range kinds(api.SABM, api.DISC) {
				if l := made(false); l.Hear(k, pf, true) != response(api.DM, pf) || l.State() != state {
					t.Errorf("failed %v: %d with %v", failed, k, pf)
				}
			}
			if l := made(true); l.Hear(api.SABM, pf, true) != says(response(api.UA, pf), link.Asked) || l.State() != link.Up {
				t.Errorf("failed %v: SABM with %v of one that listens", failed, pf)
			}
			if l := made(true); l.Hear(api.DISC, pf, true) != response(api.DM, pf) || l.State() != state {
				t.Errorf("failed %v: DISC with %v of one that listens", failed, pf)
			}
		}
		for _, k := range kinds(api.UIH, api.UI, api.I, api.RR, api.RNR, api.REJ) {
			l := made(true)
			if l.Hear(k, true, true) != response(api.DM, true) || l.Hear(k, false, true) != (link.Act{}) || l.Hear(k, true, false) != (link.Act{}) || l.Hear(k, false, false) != (link.Act{}) || l.State() != state {
				t.Errorf("failed %v: %d", failed, k)
			}
		}
		if l := made(true); l.Close() != (link.Act{}) || l.Due() != (link.Act{}) || l.State() != state {
			t.Errorf("failed %v: closed, or due", failed)
		}
		if l := made(true); l.Open() != command(api.SABM) || l.State() != link.Opening {
			t.Errorf("failed %v: opened", failed)
		}
	}
}

func TestWhileOpening(t *testing.T) {
	made := func() *link.Link {
		l := link.New(1)
		l.Open()
		return l
	}
	for _, x := range []struct {
		e    event
		want link.Act
		then uint8
	}{
		{frame(api.UA, true, false), ends(link.Act{}, link.Opened), link.Up},
		{frame(api.UA, false, false), link.Act{}, link.Opening},
		{frame(api.UA, true, true), link.Act{}, link.Opening},
		{frame(api.DM, true, false), ends(link.Act{}, link.Refused), link.Down},
		{frame(api.DM, false, false), link.Act{}, link.Opening},
		{frame(api.DM, true, true), link.Act{}, link.Opening},
		{frame(api.SABM, true, true), response(api.UA, true), link.Opening},
		{frame(api.SABM, false, true), response(api.UA, false), link.Opening},
		{frame(api.SABM, true, false), link.Act{}, link.Opening},
		{frame(api.DISC, true, true), ends(response(api.DM, true), link.Refused), link.Down},
		{frame(api.DISC, false, true), ends(response(api.DM, false), link.Refused), link.Down},
		{frame(api.DISC, true, false), link.Act{}, link.Opening},
		{frame(api.RR, true, true), link.Act{}, link.Opening},
		{event{what: due}, command(api.SABM), link.Opening},
		{event{what: open}, link.Act{}, link.Opening},
		{event{what: shut}, command(api.DISC), link.Closing},
	} {
		l := made()
		if a := do(l, x.e); a != x.want || l.State() != x.then {
			t.Errorf("%+v: %v, %d; not %v, %d", x.e, a, l.State(), x.want, x.then)
		}
	}
}

func TestWhileUp(t *testing.T) {
	made := func() *link.Link {
		l := link.New(1)
		l.Open()
		l.Hear(api.UA, true, false)
		return l
	}
	for _, x := range []struct {
		e    event
		want link.Act
		then uint8
	}{
		{frame(api.UA, true, false), link.Act{}, link.Up},
		{frame(api.DM, true, false), link.Act{Fact: link.Closed}, link.Down},
		{frame(api.DM, false, false), link.Act{Fact: link.Closed}, link.Down},
		{frame(api.DM, true, true), link.Act{}, link.Up},
		{frame(api.SABM, true, true), says(response(api.UA, true), link.Again), link.Up},
		{frame(api.SABM, false, true), says(response(api.UA, false), link.Again), link.Up},
		{frame(api.SABM, true, false), link.Act{}, link.Up},
		{frame(api.DISC, true, true), says(response(api.UA, true), link.Closed), link.Down},
		{frame(api.DISC, false, true), says(response(api.UA, false), link.Closed), link.Down},
		{frame(api.DISC, true, false), link.Act{}, link.Up},
		{frame(api.RR, true, true), link.Act{}, link.Up},
		{event{what: due}, link.Act{}, link.Up},
		{event{what: open}, link.Act{}, link.Up},
		{event{what: shut}, command(api.DISC), link.Closing},
	} {
		l := made()
		if a := do(l, x.e); a != x.want || l.State() != x.then {
			t.Errorf("%+v: %v, %d; not %v, %d", x.e, a, l.State(), x.want, x.then)
		}
	}
}

func TestWhileClosing(t *testing.T) {
	made := func() *link.Link {
		l := link.New(1)
		l.Listen(true)
		l.Hear(api.SABM, true, true)
		l.Close()
		return l
	}
	for _, x := range []struct {
		e    event
		want link.Act
		then uint8
	}{
		{frame(api.UA, true, false), ends(link.Act{}, link.Closed), link.Down},
		{frame(api.UA, false, false), link.Act{}, link.Closing},
		{frame(api.UA, true, true), link.Act{}, link.Closing},
		{frame(api.DM, true, false), ends(link.Act{}, link.Closed), link.Down},
		{frame(api.DM, false, false), link.Act{}, link.Closing},
		{frame(api.DM, true, true), link.Act{}, link.Closing},
		{frame(api.SABM, true, true), response(api.DM, true), link.Closing},
		{frame(api.SABM, false, true), response(api.DM, false), link.Closing},
		{frame(api.SABM, true, false), link.Act{}, link.Closing},
		{frame(api.DISC, true, true), response(api.UA, true), link.Closing},
		{frame(api.DISC, false, true), response(api.UA, false), link.Closing},
		{frame(api.DISC, true, false), link.Act{}, link.Closing},
		{frame(api.RR, true, true), link.Act{}, link.Closing},
		{event{what: due}, command(api.DISC), link.Closing},
		{event{what: open}, link.Act{}, link.Closing},
		{event{what: shut}, link.Act{}, link.Closing},
	} {
		l := made()
		if a := do(l, x.e); a != x.want || l.State() != x.then {
			t.Errorf("%+v: %v, %d; not %v, %d", x.e, a, l.State(), x.want, x.then)
		}
	}
}

// saysTill tells how often a link says that command when nothing comes back, the first time included, which it just said; it is Failed then.
func saysTill(t *testing.T, l *link.Link, kind uint8) int {
	state := l.State()
	for said := 1; said < 1000; said++ {
		switch a := l.Due(); a {
		case command(kind):
			if l.State() != state {
				t.Fatalf("it says %d, and is %d", kind, l.State())
			}
		case ends(link.Act{}, link.Broken):
			if l.State() != link.Failed {
				t.Fatalf("Broken, but %d", l.State())
			}
			return said
		default:
			t.Fatalf("due: %v", a)
		}
	}
	t.Fatal("it does not end")
	return 0
}

// times are how often a link of that N2 says a command.
func times(n2 int) int { return newModel(n2).n2 + 1 }

func TestAsManyTriesAsN2(t *testing.T) {
	for _, n2 := range edges {
		l := link.New(n2)
		l.Open()
		if n := saysTill(t, l, api.SABM); n != times(n2) {
			t.Errorf("N2 %d: SABM %d times", n2, n)
		}
		if a := l.Due(); a != (link.Act{}) || l.State() != link.Failed {
			t.Errorf("N2 %d: due after it failed: %v", n2, a)
		}
		l = link.New(n2)
		l.Listen(true)
		l.Hear(api.SABM, true, true)
		l.Close()
		if n := saysTill(t, l, api.DISC); n != times(n2) {
			t.Errorf("N2 %d: DISC %d times", n2, n)
		}
	}
}

func TestTheLastTryMayBeAnswered(t *testing.T) {
	for _, n2 := range []int{0, 1, 2, 254, 255, 256} {
		for tries := range times(n2) {
			l := link.New(n2)
			l.Open()
			for range tries {
				l.Due()
			}
			if a := l.Hear(api.UA, true, false); a != ends(link.Act{}, link.Opened) || l.State() != link.Up {
				t.Fatalf("N2 %d, after %d tries: %v", n2, tries, a)
			}
		}
	}
}

func TestTriesBeginAnew(t *testing.T) {
	for _, n2 := range []int{0, 1, 2, 255} {
		tried := func() *link.Link {
			l := link.New(n2)
			l.Open()
			for range times(n2) - 1 {
				l.Due()
			}
			return l
		}
		l := tried()
		l.Close()
		if n := saysTill(t, l, api.DISC); n != times(n2) {
			t.Errorf("N2 %d, closed while Opening: %d", n2, n)
		}
		l.Open()
		if n := saysTill(t, l, api.SABM); n != times(n2) {
			t.Errorf("N2 %d, opened when it failed: %d", n2, n)
		}
		l = tried()
		l.Hear(api.DM, true, false)
		l.Open()
		if n := saysTill(t, l, api.SABM); n != times(n2) {
			t.Errorf("N2 %d, opened when it was refused: %d", n2, n)
		}
		l = tried()
		l.Hear(api.UA, true, false)
		l.Close()
		if n := saysTill(t, l, api.DISC); n != times(n2) {
			t.Errorf("N2 %d, closed when it was Up: %d", n2, n)
		}
		l = tried()
		l.Open()
		if a := l.Due(); a != ends(link.Act{}, link.Broken) {
			t.Errorf("N2 %d, opened twice, it tries no more for that: %v", n2, a)
		}
		l = tried()
		l.Hear(api.UA, true, false)
		l.Close()
		l.Close()
		l.Hear(api.SABM, true, true)
		l.Hear(api.DISC, true, true)
		if n := saysTill(t, l, api.DISC); n != times(n2) {
			t.Errorf("N2 %d, closed twice: %d", n2, n)
		}
	}
}

func TestAFailedOneOpensAgain(t *testing.T) {
	l := link.New(1)
	l.Open()
	l.Due()
	l.Due()
	if a := l.Hear(api.UA, true, false); a != (link.Act{}) || l.State() != link.Failed {
		t.Errorf("an answer that comes too late: %v", a)
	}
	if a := l.Close(); a != (link.Act{}) || l.State() != link.Failed {
		t.Errorf("closed: %v", a)
	}
	if a := l.Open(); a != command(api.SABM) || l.State() != link.Opening {
		t.Errorf("opened: %v", a)
	}
	if a := l.Hear(api.UA, true, false); a != ends(link.Act{}, link.Opened) || l.State() != link.Up {
		t.Errorf("UA: %v", a)
	}
}

func TestAFrameThatComesTwice(t *testing.T) {
	l := link.New(3)
	l.Listen(true)
	for _, x := range []struct {
		e           event
		first, then link.Act
		state       uint8
	}{
		{frame(api.SABM, true, true), says(response(api.UA, true), link.Asked), says(response(api.UA, true), link.Again), link.Up},
		{frame(api.DISC, true, true), says(response(api.UA, true), link.Closed), response(api.DM, true), link.Down},
		{event{what: open}, command(api.SABM), link.Act{}, link.Opening},
		{frame(api.UA, true, false), ends(link.Act{}, link.Opened), link.Act{}, link.Up},
		{frame(api.DM, false, false), link.Act{Fact: link.Closed}, link.Act{}, link.Down},
		{event{what: open}, command(api.SABM), link.Act{}, link.Opening},
		{frame(api.DM, true, false), ends(link.Act{}, link.Refused), link.Act{}, link.Down},
		{event{what: open}, command(api.SABM), link.Act{}, link.Opening},
		{frame(api.SABM, true, true), response(api.UA, true), response(api.UA, true), link.Opening},
		{event{what: shut}, command(api.DISC), link.Act{}, link.Closing},
		{frame(api.DISC, false, true), response(api.UA, false), response(api.UA, false), link.Closing},
		{frame(api.UA, true, false), ends(link.Act{}, link.Closed), link.Act{}, link.Down},
	} {
		if a, b := do(l, x.e), do(l, x.e); a != x.first || b != x.then || l.State() != x.state {
			t.Errorf("%+v: %v, %v; %d", x.e, a, b, l.State())
		}
	}
}

func TestKindsThatAreNone(t *testing.T) {
	for _, n2 := range []int{0, 2} {
		for name, way := range ways(n2) {
			l := link.New(n2)
			for _, e := range way {
				do(l, e)
			}
			state := l.State()
			for _, k := range allKinds() {
				if k >= api.SABM && k <= api.REJ {
					continue
				}
				for i := range 4 {
					if a := l.Hear(k, i&1 != 0, i&2 != 0); a != (link.Act{}) || l.State() != state {
						t.Fatalf("%s: kind %d: %v", name, k, a)
					}
				}
			}
		}
	}
}

func TestTheWrongWayRound(t *testing.T) {
	for name, way := range ways(1) {
		for _, first := range []uint8{listen, deaf} {
			l := link.New(1)
			for _, e := range append(slices.Clip(way), event{what: first}) {
				do(l, e)
			}
			state := l.State()
			for _, pf := range []bool{false, true} {
				a, b := l.Hear(api.UA, pf, true), l.Hear(api.DM, pf, true)
				c, d := l.Hear(api.SABM, pf, false), l.Hear(api.DISC, pf, false)
				for _, act := range []link.Act{a, b, c, d} {
					if act != (link.Act{}) || l.State() != state {
						t.Errorf("%s: %v", name, act)
					}
				}
			}
		}
	}
}

// P14.3

// pair is two links and what is on its way between them; lines[i] comes to ends[i].
type pair struct {
	ends  [2]link.Link
	lines [2][]event
	lose  int // so many frames more are lost
}

// said lays what the link i said on its way to the other one.
func (p *pair) said(i int, a link.Act) {
	if a.Kind == 0 {
		return
	}
	if p.lose > 0 {
		p.lose--
		return
	}
	p.lines[1-i] = append(slices.Clip(p.lines[1-i]), frame(a.Kind, a.PF, a.Command))
}

// hand lets the link i hear the first frame on its way there; false, if there is none.
func (p *pair) hand(i int) bool {
	if len(p.lines[i]) == 0 {
		return false
	}
	e := p.lines[i][0]
	p.lines[i] = p.lines[i][1:]
	p.said(i, do(&p.ends[i], e))
	return true
}

func (p *pair) states() [2]uint8 { return [2]uint8{p.ends[0].State(), p.ends[1].State()} }

// everyOrder hands over what there is in every order, timers that come due in between (that often at most), and asks at the end of each.
func everyOrder(t *testing.T, p pair, dues int, want [2]uint8) {
	moved := false
	for i := range 2 {
		next := p
		if next.hand(i) {
			moved = true
			everyOrder(t, next, dues, want)
		}
		next = p
		if s := next.ends[i].State(); dues > 0 && (s == link.Opening || s == link.Closing) {
			next.said(i, next.ends[i].Due())
			everyOrder(t, next, dues-1, want)
		}
	}
	if !moved && p.states() != want {
		t.Fatalf("%v, not %v", p.states(), want)
	}
}

var bothUp = [2]uint8{link.Up, link.Up}

func TestOneOpensAndTheOtherListens(t *testing.T) {
	for dues := range 4 {
		p := pair{ends: [2]link.Link{*link.New(3), *link.New(3)}}
		p.ends[1].Listen(true)
		p.said(0, p.ends[0].Open())
		everyOrder(t, p, dues, bothUp)
	}
}

func TestBothOpen(t *testing.T) {
	for i := range 4 {
		for dues := range 4 {
			p := pair{ends: [2]link.Link{*link.New(3), *link.New(3)}}
			p.ends[0].Listen(i&1 != 0)
			p.ends[1].Listen(i&2 != 0)
			p.said(0, p.ends[0].Open())
			p.said(1, p.ends[1].Open())
			everyOrder(t, p, dues, bothUp)
		}
	}
}

func TestOneThatIsUpIsAskedToOpen(t *testing.T) {
	p := pair{ends: [2]link.Link{*link.New(1), *link.New(1)}}
	p.ends[1].Listen(true)
	p.said(0, p.ends[0].Open())
	p.hand(1)
	if a := p.ends[1].Open(); a != (link.Act{}) {
		t.Errorf("it was asked already: %v", a)
	}
	everyOrder(t, p, 1, bothUp)
}

func TestOneOpensAndNobodyListens(t *testing.T) {
	p := pair{ends: [2]link.Link{*link.New(3), *link.New(3)}}
	p.said(0, p.ends[0].Open())
	everyOrder(t, p, 3, [2]uint8{link.Down, link.Down})
}

// tillStill hands over all there is, and lets timers come due, till nobody waits any more.
func (p *pair) tillStill() {
	for range 10000 {
		if p.hand(0) || p.hand(1) {
			continue
		}
		still := true
		for i := range 2 {
			if s := p.ends[i].State(); s == link.Opening || s == link.Closing {
				still = false
				p.said(i, p.ends[i].Due())
			}
		}
		if still {
			return
		}
	}
}

func TestUpAfterLosses(t *testing.T) {
	for _, n2 := range []int{0, 1, 2, 7, 255} {
		for lost := range n2 + 2 {
			p := pair{ends: [2]link.Link{*link.New(n2), *link.New(n2)}, lose: lost}
			p.ends[1].Listen(true)
			p.said(0, p.ends[0].Open())
			p.tillStill()
			want := bothUp
			if lost > n2 {
				want = [2]uint8{link.Failed, link.Down}
			}
			if p.states() != want {
				t.Fatalf("N2 %d, %d lost: %v, not %v", n2, lost, p.states(), want)
			}
		}
	}
}

func TestBothUpAfterLosses(t *testing.T) {
	for lost := range 9 {
		p := pair{ends: [2]link.Link{*link.New(4), *link.New(4)}, lose: lost}
		p.said(0, p.ends[0].Open())
		p.said(1, p.ends[1].Open())
		p.tillStill()
		if p.states() != bothUp {
			t.Errorf("%d lost: %v", lost, p.states())
		}
	}
}

func TestACloseAndACloseThatMeetsOne(t *testing.T) {
	down := [2]uint8{link.Down, link.Down}
	for dues := range 4 {
		p := pair{ends: [2]link.Link{*link.New(3), *link.New(3)}}
		p.said(0, p.ends[0].Open())
		p.said(1, p.ends[1].Open())
		p.tillStill()
		one := p
		one.said(0, one.ends[0].Close())
		everyOrder(t, one, dues, down)
		p.said(0, p.ends[0].Close())
		p.said(1, p.ends[1].Close())
		everyOrder(t, p, dues, down)
	}
}

func TestACloseThatMeetsAClose(t *testing.T) {
	a, b := link.New(1), link.New(1)
	for _, l := range []*link.Link{a, b} {
		l.Open()
		l.Hear(api.UA, true, false)
		if got := l.Close(); got != command(api.DISC) {
			t.Fatalf("Close: %v", got)
		}
	}
	for _, l := range []*link.Link{a, b} {
		if got := l.Hear(api.DISC, true, true); got != response(api.UA, true) || l.State() != link.Closing {
			t.Errorf("DISC while Closing: %v", got)
		}
	}
	for _, l := range []*link.Link{a, b} {
		if got := l.Hear(api.UA, true, false); got != ends(link.Act{}, link.Closed) || l.State() != link.Down {
			t.Errorf("UA while Closing: %v", got)
		}
	}
}

func TestUpHearsNothingButWhatNumbersItsFrames(t *testing.T) {
	for _, n2 := range []int{0, 1, 255} {
		for name, way := range ways(n2) {
			l := link.New(n2)
			for _, e := range way {
				do(l, e)
			}
			if l.State() != link.Up {
				continue
			}
			for range 300 {
				for _, k := range kinds(api.I, api.RR, api.RNR, api.REJ) {
					for i := range 4 {
						if a := l.Hear(k, i&1 != 0, i&2 != 0); a != (link.Act{}) || l.State() != link.Up {
							t.Fatalf("N2 %d, %s: kind %d: %v", n2, name, k, a)
						}
					}
				}
			}
		}
	}
}

func TestWhenItSaysWhat(t *testing.T) {
	r := rand.New(rand.NewSource(3))
	es := events(someKinds)
	for n2 := range 4 {
		l := link.New(n2)
		for range 50000 {
			e := es[r.Intn(len(es))]
			a := do(l, e)
			if a.Kind == 0 {
				if a.PF || a.Command || a.Timer == link.Begin {
					t.Fatalf("%+v: nothing is said, but %v", e, a)
				}
				continue
			}
			if a.Command && (e.what == hear || !a.PF || a.Timer != link.Begin || a.Kind != api.SABM && a.Kind != api.DISC) {
				t.Fatalf("%+v: a command %v", e, a)
			}
			if !a.Command && (e.what != hear || !e.command || a.PF != e.pf || a.Kind != api.UA && a.Kind != api.DM) {
				t.Fatalf("%+v: a response %v", e, a)
			}
		}
	}
}

// What is said of a nil link, and rules that hold everywhere

func TestNilLink(t *testing.T) {
	var l *link.Link
	for range 2 {
		for _, e := range events(allKinds()) {
			if a := do(l, e); a != (link.Act{}) || l.State() != 0 {
				t.Fatalf("%+v: %v", e, a)
			}
		}
	}
}

func TestALinkThatNewDidNotMake(t *testing.T) {
	var zero link.Link
	walk(t, zero, *newModel(0), events(kinds(api.SABM, api.UA, api.DM, api.DISC, api.RR)), 3, nil)
	if zero.State() != link.Down {
		t.Errorf("it is %d", zero.State())
	}
}

func TestLinksAreApart(t *testing.T) {
	a, b := link.New(1), link.New(2)
	a.Listen(true)
	a.Open()
	a.Due()
	if b.State() != link.Down || b.Hear(api.SABM, true, true) != response(api.DM, true) {
		t.Error("what is done to one shows at the other one")
	}
	b.Open()
	a.Due()
	if a.State() != link.Failed || saysTill(t, b, api.SABM) != 3 {
		t.Error("tries of one count for the other one")
	}
}

func TestExamples(t *testing.T) {
	for i, x := range []struct {
		es   []event
		want []link.Act
		then uint8
	}{
		{[]event{{what: open}, frame(api.UA, true, false)}, []link.Act{command(api.SABM), ends(link.Act{}, link.Opened)}, link.Up},
		{[]event{{what: open}, {what: due}, {what: due}}, []link.Act{command(api.SABM), command(api.SABM), ends(link.Act{}, link.Broken)}, link.Failed},
		{[]event{{what: listen}, frame(api.SABM, true, true), frame(api.DISC, false, true)}, []link.Act{{}, says(response(api.UA, true), link.Asked), says(response(api.UA, false), link.Closed)}, link.Down},
	} {
		t.Run(strconv.Itoa(i), func(t *testing.T) {
			l := link.New(1)
			for j, e := range x.es {
				if a := do(l, e); a != x.want[j] {
					t.Errorf("%+v: %v, not %v", e, a, x.want[j])
				}
			}
			if l.State() != x.then {
				t.Errorf("%d, not %d", l.State(), x.then)
			}
		})
	}
}
