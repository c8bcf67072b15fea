package tests

import (
	"fmt"
	"slices"
	"testing"

	"loop.example/g00722/impl"
)

const (
	dialing = impl.ConnDialing
	resting = impl.ConnIdle
	probing = impl.ConnProbing
	held    = impl.ConnHeld
	closed  = impl.ConnClosed
)

// The events of a connection, by the names of the document.
const (
	toOpened = iota
	toFailed
	toLent
	toReturned
	toProbe
	toAnswered
	toSilent
	toClosed
)

const (
	connStates = 5
	connEvents = 8
	noMove     = -1
)

// connIn returns a valid connection in a state; one that is being dialed has
// Born 0, whatever born is.
func connIn(state, born, since int) impl.Conn {
	c := impl.Conn{Id: 6, State: state, Born: born, Since: since}
	switch state {
	case dialing:
		c.Born = 0
	case held:
		c.Ticket = 9
	}
	return c
}

// dialedButBorn are invalid because they are being dialed and have a Born above 0.
func dialedButBorn() []impl.Conn {
	broken := []impl.Conn{
		{Id: 3, State: dialing, Born: 4, Since: 9}, {Id: 18, State: dialing, Born: 12, Since: 12},
		{Id: 1, State: dialing, Born: 1, Since: 1}, {Id: 1, State: dialing, Born: 1, Since: top},
		{Id: top, State: dialing, Born: top, Since: top},
	}
	for born := 1; born <= 5; born++ {
		broken = append(broken, impl.Conn{Id: 6, State: dialing, Born: born, Since: 5})
	}
	return broken
}

func heldConn(since int, told bool) impl.Conn {
	return impl.Conn{Id: 6, State: held, Born: 2, Since: since, Ticket: 9, Told: told}
}

// connTable has a row for each state with the states after the events 0 to 7.
func connTable() [connStates][connEvents]int {
	return [connStates][connEvents]int{
		{resting, closed, noMove, noMove, noMove, noMove, noMove, closed},
		{noMove, noMove, held, noMove, probing, noMove, noMove, closed},
		{noMove, noMove, noMove, noMove, noMove, resting, closed, closed},
		{noMove, noMove, noMove, resting, noMove, noMove, noMove, closed},
		{noMove, noMove, noMove, noMove, noMove, noMove, noMove, noMove},
	}
}

func dueConfig(life, idle, keep, leak int) impl.Config {
	k := impl.DefaultConfig()
	k.Life, k.Idle, k.Keep, k.Leak = life, idle, keep, leak
	return k
}

func validConns() []impl.Conn {
	valid := []impl.Conn{
		heldConn(7, false), heldConn(7, true),
		{Id: 1, State: held, Ticket: 1}, {Id: 1, State: held, Ticket: top},
		{Id: top, State: held, Born: top, Since: top, Ticket: top, Told: true},
	}
	for state := range connStates {
		valid = append(valid, connIn(state, 0, 0), connIn(state, 0, top), connIn(state, 5, 5), connIn(state, 5, 6), connIn(state, top, top))
	}
	for _, id := range []int{1, 2, top - 1, top} {
		c := connIn(resting, 3, 4)
		c.Id = id
		valid = append(valid, c)
	}
	return valid
}

// brokenConns are invalid by a single field each.
func brokenConns() []impl.Conn {
	var broken []impl.Conn
	change := func(c impl.Conn, edit func(*impl.Conn)) {
		edit(&c)
		broken = append(broken, c)
	}
	for state := range connStates {
		c := connIn(state, 3, 5)
		for _, id := range notIds() {
			change(c, func(c *impl.Conn) { c.Id = id })
			if state == held {
				change(c, func(c *impl.Conn) { c.Ticket = id })
			}
		}
		for _, at := range notTicks() {
			change(c, func(c *impl.Conn) { c.Born = at })
			change(c, func(c *impl.Conn) { c.Since = at })
		}
		change(c, func(c *impl.Conn) { c.Born = 6 })
		if state != dialing {
			change(c, func(c *impl.Conn) { c.Since = 2 })
		}
		if state == held {
			continue
		}
		for _, ticket := range []int{1, 9, top, -1, top + 1} {
			change(c, func(c *impl.Conn) { c.Ticket = ticket })
		}
		change(c, func(c *impl.Conn) { c.Told = true })
	}
	for _, state := range append(farNumbers(), 5, 6) {
		for _, ticket := range []int{0, 9} {
			change(connIn(resting, 3, 5), func(c *impl.Conn) { c.State, c.Ticket = state, ticket })
		}
	}
	broken = append(broken, dialedButBorn()...)
	return append(broken, impl.Conn{})
}

func checkConnStep(t *testing.T, c impl.Conn, event, now, n int, want impl.Conn, wantOk bool) {
	t.Helper()
	if got, ok := impl.StepConn(c, event, now, n); got != want || ok != wantOk {
		t.Errorf("StepConn(%+v, %d, %d, %d) = %+v, %v, want %+v, %v", c, event, now, n, got, ok, want, wantOk)
	}
}

func checkConnRefused(t *testing.T, c impl.Conn, event, now, n int) {
	t.Helper()
	checkConnStep(t, c, event, now, n, c, false)
}

func checkDue(t *testing.T, k impl.Config, c impl.Conn, now, want int) {
	t.Helper()
	if got := impl.ConnDue(k, c, now); got != want {
		t.Errorf("ConnDue of %+v at %d with Life %d, Idle %d, Keep %d, Leak %d = %d, want %d", c, now, k.Life, k.Idle, k.Keep, k.Leak, got, want)
	}
}

func checkNextDue(t *testing.T, k impl.Config, c impl.Conn, want int) {
	t.Helper()
	if got := impl.NextConnDue(k, c); got != want {
		t.Errorf("NextConnDue of %+v with Life %d, Idle %d, Keep %d, Leak %d = %d, want %d", c, k.Life, k.Idle, k.Keep, k.Leak, got, want)
	}
}

func checkConnPlay(t *testing.T, id int, events [][]int, want impl.Conn, answers ...int) {
	t.Helper()
	if got, list := impl.PlayConn(id, events); got != want || !slices.Equal(list, answers) {
		t.Errorf("PlayConn(%d, %v) = %+v, %v, want %+v, %v", id, events, got, list, want, answers)
	}
}

func TestConnConstants(t *testing.T) {
	if got := [...]int{dialing, resting, probing, held, closed}; got != [...]int{0, 1, 2, 3, 4} {
		t.Errorf("the states are %v", got)
	}
	if got := [...]int{impl.DueNothing, impl.DueLife, impl.DueIdle, impl.DueProbe, impl.DueLeak}; got != [...]int{0, 1, 2, 3, 4} {
		t.Errorf("what can be due is %v", got)
	}
}

func TestConnOk(t *testing.T) {
	for _, c := range validConns() {
		if !impl.ConnOk(c) {
			t.Errorf("%+v is not valid", c)
		}
	}
	for _, c := range brokenConns() {
		if impl.ConnOk(c) {
			t.Errorf("%+v is valid", c)
		}
	}
}

// TestBornOfEveryState tries every Born up to the tick after Since.
func TestBornOfEveryState(t *testing.T) {
	for state := range connStates {
		for _, since := range []int{0, 1, 9} {
			for born := range since + 2 {
				c := connIn(state, 0, since)
				c.Born = born
				want := born == 0 || born <= since && state != dialing
				if got := impl.ConnOk(c); got != want {
					t.Errorf("ConnOk(%+v) = %v", c, got)
				}
				if got := impl.ConnText(c); (got != "") != want {
					t.Errorf("ConnText(%+v) = %q", c, got)
				}
				_, closes := impl.StepConn(c, toClosed, since, 0)
				if closes != (want && state != closed) {
					t.Errorf("StepConn of %+v to closed: %v", c, closes)
				}
			}
		}
	}
}

func TestNewConn(t *testing.T) {
	for _, id := range []int{1, 2, 300, top - 1, top} {
		for _, now := range edgeTicks() {
			if got, ok := impl.NewConn(id, now); !ok || got != (impl.Conn{Id: id, State: dialing, Since: now}) || !impl.ConnOk(got) {
				t.Errorf("NewConn(%d, %d) = %+v, %v", id, now, got, ok)
			}
		}
		for _, now := range notTicks() {
			if got, ok := impl.NewConn(id, now); ok || got != (impl.Conn{}) {
				t.Errorf("NewConn(%d, %d) = %+v, %v", id, now, got, ok)
			}
		}
	}
	for _, id := range notIds() {
		if got, ok := impl.NewConn(id, 3); ok || got != (impl.Conn{}) {
			t.Errorf("NewConn(%d, 3) = %+v, %v", id, got, ok)
		}
	}
}

// TestConnRows follows the document's table, one row after the other.
func TestConnRows(t *testing.T) {
	rows := []struct {
		event, n int
		from, to impl.Conn
	}{
		{toOpened, 0, impl.Conn{Id: 6, State: dialing, Since: 4}, impl.Conn{Id: 6, State: resting, Born: 8, Since: 8}},
		{toFailed, 0, impl.Conn{Id: 6, State: dialing, Since: 4}, impl.Conn{Id: 6, State: closed, Since: 8}},
		{toLent, 9, impl.Conn{Id: 6, State: resting, Born: 3, Since: 4}, impl.Conn{Id: 6, State: held, Born: 3, Since: 8, Ticket: 9}},
		{toReturned, 0, impl.Conn{Id: 6, State: held, Born: 3, Since: 4, Ticket: 9}, impl.Conn{Id: 6, State: resting, Born: 3, Since: 8}},
		{toReturned, 0, impl.Conn{Id: 6, State: held, Born: 3, Since: 4, Ticket: 9, Told: true}, impl.Conn{Id: 6, State: resting, Born: 3, Since: 8}},
		{toProbe, 0, impl.Conn{Id: 6, State: resting, Born: 3, Since: 4}, impl.Conn{Id: 6, State: probing, Born: 3, Since: 8}},
		{toAnswered, 0, impl.Conn{Id: 6, State: probing, Born: 3, Since: 4}, impl.Conn{Id: 6, State: resting, Born: 3, Since: 8}},
		{toSilent, 0, impl.Conn{Id: 6, State: probing, Born: 3, Since: 4}, impl.Conn{Id: 6, State: closed, Born: 3, Since: 8}},
		{toClosed, 0, impl.Conn{Id: 6, State: dialing, Since: 4}, impl.Conn{Id: 6, State: closed, Since: 8}},
		{toClosed, 0, impl.Conn{Id: 6, State: resting, Born: 3, Since: 4}, impl.Conn{Id: 6, State: closed, Born: 3, Since: 8}},
		{toClosed, 0, impl.Conn{Id: 6, State: probing, Born: 3, Since: 4}, impl.Conn{Id: 6, State: closed, Born: 3, Since: 8}},
		{toClosed, 0, impl.Conn{Id: 6, State: held, Born: 3, Since: 4, Ticket: 9}, impl.Conn{Id: 6, State: closed, Born: 3, Since: 8}},
		{toClosed, 0, impl.Conn{Id: 6, State: held, Born: 3, Since: 4, Ticket: 9, Told: true}, impl.Conn{Id: 6, State: closed, Born: 3, Since: 8}},
	}
	for _, row := range rows {
		checkConnStep(t, row.from, row.event, 8, row.n, row.to, true)
	}
}

// afterMove is the connection that the table promises for a move.
func afterMove(c impl.Conn, event, to, now, n int) impl.Conn {
	next := impl.Conn{Id: c.Id, State: to, Born: c.Born, Since: now}
	if event == toOpened {
		next.Born = now
	}
	if event == toLent {
		next.Ticket = n
	}
	return next
}

func TestEveryStateAndEventOfAConn(t *testing.T) {
	for _, c := range validConns() {
		for event, to := range connTable()[c.State] {
			checkConnRefused(t, c, event, c.Since-1, 7)
			for _, now := range []int{c.Since, c.Since + 1, c.Since + 1000, top - 1, top} {
				if now < c.Since || now > top || to == noMove {
					checkConnRefused(t, c, event, now, 7)
					continue
				}
				checkConnStep(t, c, event, now, 7, afterMove(c, event, to, now, 7), true)
			}
		}
	}
}

func TestStepsAtNoTick(t *testing.T) {
	for _, now := range notTicks() {
		for state := range connStates {
			for event := range connEvents {
				checkConnRefused(t, connIn(state, 0, 0), event, now, 7)
				checkConnRefused(t, connIn(state, 5, top), event, now, 7)
			}
		}
	}
}

func TestEventsThatAreNone(t *testing.T) {
	for _, event := range append(farNumbers(), -8, 9, 10, 255) {
		if event >= 0 && event < connEvents {
			continue
		}
		for state := range connStates {
			checkConnRefused(t, connIn(state, 3, 5), event, 5, 7)
			checkConnRefused(t, connIn(state, 3, 5), event, 9, 7)
		}
	}
	checkConnRefused(t, connIn(resting, 3, 5), connEvents, 9, 7)
}

func TestTicketsOfALoan(t *testing.T) {
	c := connIn(resting, 3, 5)
	for _, n := range []int{1, 2, 300, top - 1, top} {
		checkConnStep(t, c, toLent, 6, n, impl.Conn{Id: 6, State: held, Born: 3, Since: 6, Ticket: n}, true)
	}
	for _, n := range notIds() {
		checkConnRefused(t, c, toLent, 6, n)
		// Only a loan looks at n.
		checkConnStep(t, c, toProbe, 6, n, impl.Conn{Id: 6, State: probing, Born: 3, Since: 6}, true)
		checkConnStep(t, heldConn(5, false), toReturned, 6, n, impl.Conn{Id: 6, State: resting, Born: 2, Since: 6}, true)
		checkConnStep(t, connIn(dialing, 0, 5), toOpened, 6, n, impl.Conn{Id: 6, State: resting, Born: 6, Since: 6}, true)
		checkConnStep(t, c, toClosed, 6, n, impl.Conn{Id: 6, State: closed, Born: 3, Since: 6}, true)
	}
}

func TestLoanOfAHeldConn(t *testing.T) {
	for _, told := range []bool{false, true} {
		for _, n := range []int{1, 9, 10} {
			checkConnRefused(t, heldConn(5, told), toLent, 6, n)
		}
	}
}

func TestAClosedConnNeverChanges(t *testing.T) {
	for _, c := range []impl.Conn{connIn(closed, 0, 0), connIn(closed, 3, 5), connIn(closed, top, top), {Id: top, State: closed, Since: top}} {
		for event := -1; event <= connEvents; event++ {
			for _, now := range append(edgeTicks(), c.Since, c.Since+1, -1, top+1) {
				for _, n := range []int{0, 1, 7, top, top + 1} {
					checkConnRefused(t, c, event, now, n)
				}
			}
		}
	}
}

// TestClosedAfterEveryPlay closes a connection after every short sequence of
// events and lets every sequence of two events follow.
func TestClosedAfterEveryPlay(t *testing.T) {
	const before, after = 3, 2
	for code := range power(connEvents, before+after) {
		var events [][]int
		for k := range before + after {
			if k == before {
				events = append(events, []int{toClosed, k, 0})
			}
			events = append(events, []int{code % connEvents, k + 1, 4})
			code /= connEvents
		}
		early, _ := impl.PlayConn(2, events[:before+1])
		late, answers := impl.PlayConn(2, events)
		if early.State != closed || late != early || slices.Contains(answers[before+1:], 1) {
			t.Errorf("%v: %+v, and then %+v, %v", events, early, late, answers)
		}
	}
}

func TestInvalidConnsAreRefused(t *testing.T) {
	k := dueConfig(1, 1, 1, 1)
	for _, c := range brokenConns() {
		for event := -1; event <= connEvents; event++ {
			for _, now := range []int{0, 5, 6, top, c.Since} {
				checkConnRefused(t, c, event, now, 7)
			}
		}
		for _, now := range edgeTicks() {
			checkDue(t, k, c, now, impl.DueNothing)
		}
		checkNextDue(t, k, c, -1)
		if got := impl.ConnText(c); got != "" {
			t.Errorf("ConnText(%+v) = %q", c, got)
		}
	}
}

func TestDeadlinesOfAnIdleConn(t *testing.T) {
	const none, life, quiet, probe = impl.DueNothing, impl.DueLife, impl.DueIdle, impl.DueProbe
	c := connIn(resting, 10, 20)
	rows := []struct {
		life, idle, keep int
		first            int
		dues             [][2]int // a tick and what is due at it
	}{
		{100, 30, 15, 35, [][2]int{{0, none}, {20, none}, {34, none}, {35, probe}, {49, probe}, {50, quiet}, {109, quiet}, {110, life}, {top, life}}},
		// Life counts from Born, the others from Since.
		{30, 30, 30, 40, [][2]int{{39, none}, {40, life}, {50, life}}},
		// Two or three deadlines on one tick: the first of them is reported.
		{40, 30, 15, 35, [][2]int{{35, probe}, {49, probe}, {50, life}}},
		{40, 30, 30, 50, [][2]int{{49, none}, {50, life}}},
		{100, 30, 30, 50, [][2]int{{49, none}, {50, quiet}}},
		{40, 100, 30, 50, [][2]int{{49, none}, {50, life}}},
		// A life that has passed when the state is entered is due at once.
		{5, 30, 15, 15, [][2]int{{14, none}, {15, life}, {20, life}}},
		{10, 30, 15, 20, [][2]int{{19, none}, {20, life}}},
		{1, 1, 1, 11, [][2]int{{10, none}, {11, life}, {21, life}}},
		// Disabled deadlines.
		{0, 30, 15, 35, [][2]int{{34, none}, {35, probe}, {50, quiet}, {top, quiet}}},
		{100, 0, 15, 35, [][2]int{{34, none}, {35, probe}, {109, probe}, {110, life}}},
		{100, 30, 0, 50, [][2]int{{49, none}, {50, quiet}, {110, life}}},
		{0, 0, 15, 35, [][2]int{{34, none}, {35, probe}, {top, probe}}},
		{0, 30, 0, 50, [][2]int{{49, none}, {50, quiet}, {top, quiet}}},
		{100, 0, 0, 110, [][2]int{{109, none}, {110, life}, {top, life}}},
		{0, 0, 0, -1, [][2]int{{0, none}, {20, none}, {top, none}}},
		// Deadlines that would pass MaxTick fall on it.
		{top, top, top, top, [][2]int{{top - 1, none}, {top, life}}},
		{0, top, top, top, [][2]int{{top - 1, none}, {top, quiet}}},
		{0, 0, top, top, [][2]int{{top - 1, none}, {top, probe}}},
		{top - 10, top - 20, top - 20, top, [][2]int{{top - 1, none}, {top, life}}},
		{top - 11, 0, top - 20, top - 1, [][2]int{{top - 2, none}, {top - 1, life}, {top, life}}},
		{0, top - 21, top, top - 1, [][2]int{{top - 2, none}, {top - 1, quiet}, {top, quiet}}},
	}
	for _, row := range rows {
		// A leak does not concern an idle connection.
		for _, leak := range []int{0, 1, top} {
			k := dueConfig(row.life, row.idle, row.keep, leak)
			checkNextDue(t, k, c, row.first)
			for _, due := range row.dues {
				checkDue(t, k, c, due[0], due[1])
			}
		}
	}
}

func TestDeadlineOfAHeldConn(t *testing.T) {
	const none, leak = impl.DueNothing, impl.DueLeak
	rows := []struct {
		since, leak int
		first       int
		dues        [][2]int
	}{
		{20, 15, 35, [][2]int{{0, none}, {20, none}, {34, none}, {35, leak}, {36, leak}, {top, leak}}},
		{20, 1, 21, [][2]int{{20, none}, {21, leak}}},
		{20, 0, -1, [][2]int{{0, none}, {20, none}, {top, none}}},
		{20, top, top, [][2]int{{top - 1, none}, {top, leak}}},
		{top, 1, top, [][2]int{{top - 1, none}, {top, leak}}},
		{top, 0, -1, [][2]int{{top, none}}},
		{top - 3, 2, top - 1, [][2]int{{top - 2, none}, {top - 1, leak}}},
	}
	for _, row := range rows {
		// The other deadlines do not concern a held connection.
		for _, span := range []int{0, 1, top} {
			k := dueConfig(span, span, span, row.leak)
			checkNextDue(t, k, heldConn(row.since, false), row.first)
			checkNextDue(t, k, heldConn(row.since, true), -1)
			for _, due := range row.dues {
				checkDue(t, k, heldConn(row.since, false), due[0], due[1])
				checkDue(t, k, heldConn(row.since, true), due[0], none)
			}
		}
	}
}

// TestALeakIsReportedOnce follows a loan whose leak is reported, and the next one.
func TestALeakIsReportedOnce(t *testing.T) {
	k := dueConfig(0, 0, 0, 10)
	c := heldConn(20, false)
	checkDue(t, k, c, 30, impl.DueLeak)
	c.Told = true
	checkDue(t, k, c, 30, impl.DueNothing)
	checkNextDue(t, k, c, -1)
	c, _ = impl.StepConn(c, toReturned, 40, 0)
	checkNextDue(t, k, c, -1)
	c, _ = impl.StepConn(c, toLent, 40, 11)
	checkNextDue(t, k, c, 50)
	checkDue(t, k, c, 49, impl.DueNothing)
	checkDue(t, k, c, 50, impl.DueLeak)
}

func TestStatesWithoutDeadlines(t *testing.T) {
	for _, k := range []impl.Config{dueConfig(1, 1, 1, 1), dueConfig(top, top, top, top), dueConfig(0, 0, 0, 0)} {
		for _, state := range []int{dialing, probing, closed} {
			for _, since := range []int{0, 5, top} {
				checkNextDue(t, k, connIn(state, 0, since), -1)
				for _, now := range edgeTicks() {
					checkDue(t, k, connIn(state, 0, since), now, impl.DueNothing)
				}
			}
		}
	}
}

func TestNothingIsDueAtNoTick(t *testing.T) {
	for _, now := range notTicks() {
		for _, c := range validConns() {
			checkDue(t, dueConfig(1, 1, 1, 1), c, now, impl.DueNothing)
		}
	}
}

func TestDueWithInvalidConfigs(t *testing.T) {
	for _, k := range brokenConfigs() {
		for _, c := range []impl.Conn{connIn(resting, 0, 0), heldConn(2, false)} {
			for _, now := range []int{0, 5000, top} {
				checkDue(t, k, c, now, impl.DueNothing)
			}
			checkNextDue(t, k, c, -1)
		}
	}
}

// firstDue asks for every tick of a range. The ticks below it must not matter.
func firstDue(k impl.Config, c impl.Conn, from, to int) int {
	for now := from; now <= to; now++ {
		if impl.ConnDue(k, c, now) != impl.DueNothing {
			return now
		}
	}
	return -1
}

// TestNextConnDueIsTheFirstTick compares with a search of all ticks, of the
// early ones and of the last ones before MaxTick.
func TestNextConnDueIsTheFirstTick(t *testing.T) {
	for code := range power(4, 5) {
		k := dueConfig(code%4, code/4%4, code/16%4, code/64%4)
		gap := code / 256 % 4
		for state := range connStates {
			early, late := connIn(state, 2, 2+gap), connIn(state, top-5, top-5+gap)
			checkNextDue(t, k, early, firstDue(k, early, 0, 20))
			checkNextDue(t, k, late, firstDue(k, late, top-20, top))
		}
	}
}

// plainDue lists everything that is due, without limits: sums of ticks fit an int.
func plainDue(k impl.Config, c impl.Conn, now int) int {
	passed := func(from, span int) bool { return span > 0 && (from+span <= now || now == top) }
	switch {
	case c.State == resting && passed(c.Born, k.Life):
		return impl.DueLife
	case c.State == resting && passed(c.Since, k.Idle):
		return impl.DueIdle
	case c.State == resting && passed(c.Since, k.Keep):
		return impl.DueProbe
	case c.State == held && !c.Told && passed(c.Since, k.Leak):
		return impl.DueLeak
	}
	return impl.DueNothing
}

func TestDrawnDeadlines(t *testing.T) {
	draw := drawer(8)
	spans := []int{0, 1, 2, 50, 1000, top - 1, top}
	for range 4000 {
		k := dueConfig(spans[draw(7)], spans[draw(7)], spans[draw(7)], spans[draw(7)])
		born := edgeTicks()[draw(12)]
		c := connIn(draw(connStates), born, min(born+spans[draw(5)], top))
		c.Told = c.State == held && draw(2) == 1
		for _, now := range append(edgeTicks(), c.Born, c.Since) {
			checkDue(t, k, c, now, plainDue(k, c, now))
		}
		next := impl.NextConnDue(k, c)
		if next < 0 {
			checkDue(t, k, c, top, impl.DueNothing)
			continue
		}
		checkDue(t, k, c, next-1, impl.DueNothing)
		if impl.ConnDue(k, c, next) == impl.DueNothing {
			t.Errorf("nothing is due at %d for %+v with %+v", next, c, k)
		}
	}
}

func TestPlayConn(t *testing.T) {
	checkConnPlay(t, 3, nil, impl.Conn{Id: 3})
	checkConnPlay(t, 3, [][]int{}, impl.Conn{Id: 3})
	checkConnPlay(t, top, [][]int{{toOpened, 0, 0}}, impl.Conn{Id: top, State: resting}, 1)
	checkConnPlay(t, 1, [][]int{{toFailed, top, 0}}, impl.Conn{Id: 1, State: closed, Since: top}, 1)
	checkConnPlay(t, 2,
		[][]int{{toOpened, 5, 0}, {toLent, 4, 8}, {toLent, 6, 8}, {toLent, 7, 9}, {toReturned, 9, 0}, {toProbe, 9, 0}, {toLent, 10, 4}, {toAnswered, 12, 0}, {toLent, 12, 4}},
		impl.Conn{Id: 2, State: held, Born: 5, Since: 12, Ticket: 4},
		1, 0, 1, 0, 1, 1, 0, 1, 1)
	checkConnPlay(t, 2,
		[][]int{{toOpened, 5, 0}, {toProbe, 6, 0}, {toSilent, 8, 0}, {toAnswered, 9, 0}, {toClosed, 9, 0}, {toOpened, 10, 0}},
		impl.Conn{Id: 2, State: closed, Born: 5, Since: 8},
		1, 1, 1, 0, 0, 0)
	// Events that are none, and ticks and tickets that are none.
	checkConnPlay(t, 2,
		[][]int{{-1, 1, 1}, {8, 1, 1}, {toOpened, -1, 0}, {toOpened, top + 1, 0}, {toOpened, 3, 0}, {toLent, 3, 0}, {toLent, 3, top + 1}, {toLent, 3, top}},
		impl.Conn{Id: 2, State: held, Born: 3, Since: 3, Ticket: top},
		0, 0, 0, 0, 1, 0, 0, 1)
}

func TestEventsWithoutThreeElements(t *testing.T) {
	odd := [][]int{nil, {}, {toOpened}, {toOpened, 1}, {toOpened, 1, 0, 0}, {toOpened, 1, 0, 0, 0, 0}, {toClosed, 2}}
	for _, e := range odd {
		checkConnPlay(t, 3, [][]int{e}, impl.Conn{Id: 3}, 0)
		checkConnPlay(t, 3, [][]int{{toOpened, 2, 0}, e, {toProbe, 3, 0}}, impl.Conn{Id: 3, State: probing, Born: 2, Since: 3}, 1, 0, 1)
	}
	checkConnPlay(t, 3, odd, impl.Conn{Id: 3}, repeated(0, len(odd))...)
}

func TestNumberOfConnEvents(t *testing.T) {
	events := [][]int{{toOpened, 0, 0}}
	for now := 1; len(events) <= impl.MaxList; now++ {
		events = append(events, []int{toProbe, now, 0}, []int{toAnswered, now, 0})
	}
	checkConnPlay(t, 3, events[:impl.MaxList], impl.Conn{Id: 3, State: probing, Since: impl.MaxList / 2}, repeated(1, impl.MaxList)...)
	checkConnPlay(t, 3, events[:impl.MaxList+1], impl.Conn{})
	checkConnPlay(t, 3, slices.Repeat([][]int{nil}, impl.MaxList), impl.Conn{Id: 3}, repeated(0, impl.MaxList)...)
	checkConnPlay(t, 3, slices.Repeat([][]int{nil}, impl.MaxList+1), impl.Conn{})
}

func TestPlaysOfInvalidIds(t *testing.T) {
	for _, id := range notIds() {
		checkConnPlay(t, id, nil, impl.Conn{})
		checkConnPlay(t, id, [][]int{{toOpened, 1, 0}, {toClosed, 2, 0}}, impl.Conn{})
		checkConnPlay(t, id, slices.Repeat([][]int{nil}, impl.MaxList+1), impl.Conn{})
	}
}

func drawnConnEvents(draw func(int) int, n int) [][]int {
	var events [][]int
	now := 0
	for range n {
		now += draw(4) - 1 // sometimes back, which is refused after a move
		e := []int{draw(connEvents+2) - 1, now, draw(4)}
		if draw(20) == 0 {
			e = e[:draw(3)]
		}
		events = append(events, e)
	}
	return events
}

// TestDrawnPlays compares long plays with the table and checks after each
// event that exactly a held connection has a holder.
func TestDrawnPlays(t *testing.T) {
	table := connTable()
	for seed := range 300 {
		draw := drawer(seed)
		id := 1 + draw(1000)
		events := drawnConnEvents(draw, draw(impl.MaxList+1))
		model := impl.Conn{Id: id}
		var answers []int
		for k, e := range events {
			answer := 0
			if len(e) == 3 && e[0] >= 0 && e[0] < connEvents && e[1] >= model.Since && !(e[0] == toLent && e[2] == 0) {
				if to := table[model.State][e[0]]; to != noMove {
					model, answer = afterMove(model, e[0], to, e[1], e[2]), 1
				}
			}
			answers = append(answers, answer)
			got, _ := impl.PlayConn(id, events[:k+1])
			if got != model || !impl.ConnOk(got) || (got.Ticket > 0) != (got.State == held) {
				t.Fatalf("seed %d, after %d events: %+v, want %+v", seed, k+1, got, model)
			}
		}
		checkConnPlay(t, id, events, model, answers...)
	}
}

func TestConnText(t *testing.T) {
	rows := []struct {
		c    impl.Conn
		text string
	}{
		{impl.Conn{Id: 3}, "3 dialing 0 0 0"},
		{impl.Conn{Id: 3, Since: 12}, "3 dialing 0 12 0"},
		{impl.Conn{Id: 1, State: resting, Born: 2, Since: 30}, "1 idle 2 30 0"},
		{impl.Conn{Id: 10, State: probing, Born: 2, Since: 2}, "10 probing 2 2 0"},
		{impl.Conn{Id: 3, State: held, Born: 2, Since: 7, Ticket: 9}, "3 held 2 7 9"},
		{impl.Conn{Id: 3, State: held, Born: 2, Since: 7, Ticket: 9, Told: true}, "3 held 2 7 9"},
		{impl.Conn{Id: 3, State: closed, Born: 2, Since: 7}, "3 closed 2 7 0"},
		{impl.Conn{Id: top, State: held, Born: top, Since: top, Ticket: top}, "1000000000 held 1000000000 1000000000 1000000000"},
	}
	for _, row := range rows {
		if got := impl.ConnText(row.c); got != row.text {
			t.Errorf("ConnText(%+v) = %q, want %q", row.c, got, row.text)
		}
	}
	names := []string{"dialing", "idle", "probing", "held", "closed"}
	for _, c := range validConns() {
		want := fmt.Sprint(c.Id, " ", names[c.State], " ", c.Born, " ", c.Since, " ", c.Ticket)
		if got := impl.ConnText(c); got != want {
			t.Errorf("ConnText(%+v) = %q, want %q", c, got, want)
		}
	}
}

func TestConnPlaysShareNoMemory(t *testing.T) {
	events := [][]int{{toOpened, 1, 0}, {toLent, 2, 5}, nil, {toReturned, 3, 0, 0}, {toReturned, 4, 0}}
	spare := make([][]int, len(events), len(events)+4)
	copy(spare, events)
	first, answers := impl.PlayConn(7, spare)
	for k, e := range events {
		if !slices.Equal(e, spare[k]) {
			t.Errorf("event %d is now %v", k, spare[k])
		}
	}
	if !slices.Equal(events[1], []int{toLent, 2, 5}) || spare[:cap(spare)][len(events)] != nil {
		t.Errorf("the events are now %v", spare[:cap(spare)])
	}
	for k := range answers {
		answers[k] = 77
	}
	second, again := impl.PlayConn(7, spare)
	if first != second || !slices.Equal(again, []int{1, 1, 0, 0, 1}) {
		t.Errorf("the second play is %+v, %v", second, again)
	}
	events[1][0], events[1][2] = toClosed, 0
	if !slices.Equal(again, []int{1, 1, 0, 0, 1}) {
		t.Errorf("the answers are now %v", again)
	}
}
