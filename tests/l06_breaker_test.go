package tests

import (
	"math"
	"slices"
	"testing"

	"loop.example/g00722/impl"
)

const (
	dials = iota
	fails
	succeeds
)

func breakerConfig(window, trips, cool int) impl.Config {
	c := impl.DefaultConfig()
	c.Window, c.Trips, c.Cool = window, trips, cool
	return c
}

func closedWith(at ...int) impl.Breaker { return impl.Breaker{State: impl.BreakClosed, Fails: at} }

func openUntil(at int) impl.Breaker { return impl.Breaker{State: impl.BreakOpen, Until: at} }

func halfOf(at int) impl.Breaker { return impl.Breaker{State: impl.BreakHalf, Until: at} }

func sameBreaker(a, b impl.Breaker) bool {
	return a.State == b.State && slices.Equal(a.Fails, b.Fails) && a.Until == b.Until
}

func copyOfBreaker(b impl.Breaker) impl.Breaker {
	b.Fails = slices.Clone(b.Fails)
	return b
}

// checkBreaker compares what a function returned with what is wanted.
func checkBreaker(t *testing.T, what string, got impl.Breaker, ok bool, want impl.Breaker, wantOk bool) {
	t.Helper()
	if !sameBreaker(got, want) || ok != wantOk {
		t.Errorf("%s = %v, %v, want %v, %v", what, got, ok, want, wantOk)
	}
	if wantOk && !impl.BreakerOk(got) {
		t.Errorf("%s = %v is not valid", what, got)
	}
}

func checkDial(t *testing.T, b impl.Breaker, now int, want impl.Breaker, wantOk bool) {
	t.Helper()
	if impl.MayDial(b, now) != wantOk {
		t.Errorf("MayDial(%v, %d) is not %v", b, now, wantOk)
	}
	got, ok := impl.OnDial(b, now)
	checkBreaker(t, "OnDial", got, ok, want, wantOk)
}

func checkFailure(t *testing.T, c impl.Config, b impl.Breaker, now int, want impl.Breaker, wantOk bool) {
	t.Helper()
	got, ok := impl.OnFailure(c, b, now)
	checkBreaker(t, "OnFailure", got, ok, want, wantOk)
}

func checkSuccess(t *testing.T, b impl.Breaker, want impl.Breaker, wantOk bool) {
	t.Helper()
	got, ok := impl.OnSuccess(b)
	checkBreaker(t, "OnSuccess", got, ok, want, wantOk)
}

func checkPlay(t *testing.T, c impl.Config, events []impl.BreakEvent, want impl.Breaker, answers, opened []int) {
	t.Helper()
	b, got := impl.PlayBreaker(c, events)
	if !sameBreaker(b, want) || !slices.Equal(got, answers) {
		t.Errorf("PlayBreaker(%v) = %v, %v, want %v, %v", events, b, got, want, answers)
	}
	if got := impl.OpenSpans(c, events); !slices.Equal(got, opened) {
		t.Errorf("OpenSpans(%v) = %v, want %v", events, got, opened)
	}
}

func TestBreakerConstants(t *testing.T) {
	if impl.BreakClosed != 0 || impl.BreakOpen != 1 || impl.BreakHalf != 2 {
		t.Errorf("closed %d, open %d, half-open %d", impl.BreakClosed, impl.BreakOpen, impl.BreakHalf)
	}
}

func validBreakers() []impl.Breaker {
	list := []impl.Breaker{
		{}, {Fails: []int{}}, closedWith(0), closedWith(5), closedWith(top), closedWith(0, 0), closedWith(0, top), closedWith(7, 7, 8),
		closedWith(top-1, top, top), closedWith(repeated(0, 19)...), closedWith(repeated(9, 20)...), closedWith(repeated(top, 20)...), closedWith(idsUpTo(20)...),
		{State: impl.BreakOpen, Fails: []int{}, Until: 3}, {State: impl.BreakHalf, Fails: []int{}, Until: 3},
	}
	for _, at := range edgeTicks() {
		list = append(list, closedWith(at), openUntil(at), halfOf(at))
	}
	return list
}

// brokenBreakers break one rule each.
func brokenBreakers() []impl.Breaker {
	list := []impl.Breaker{
		closedWith(repeated(5, 21)...), closedWith(idsUpTo(21)...), closedWith(repeated(0, 1000)...),
		closedWith(2, 1), closedWith(1, 0), closedWith(top, top-1), closedWith(1, 2, 3, 2), closedWith(5, 4, 6), closedWith(append(idsUpTo(19), 18)...),
		{State: impl.BreakOpen, Fails: []int{0}}, {State: impl.BreakOpen, Fails: []int{3}, Until: 9}, {State: impl.BreakHalf, Fails: []int{0}},
		{State: impl.BreakHalf, Fails: []int{3}, Until: 9}, {State: impl.BreakOpen, Fails: repeated(1, 20), Until: 9},
		{Until: 1}, {Until: 3}, {Until: top}, {Fails: []int{2}, Until: 2},
	}
	for _, x := range notTicks() {
		list = append(list, closedWith(x), closedWith(x, x), impl.Breaker{Until: x}, openUntil(x), halfOf(x))
		// At the end where it belongs, so that the order is not the fault.
		if x < 0 {
			list = append(list, closedWith(x, 0, 5))
		} else {
			list = append(list, closedWith(0, 5, x))
		}
	}
	for _, state := range []int{-1, -2, 3, 4, 256, 1 << 32, math.MinInt, math.MaxInt} {
		list = append(list, impl.Breaker{State: state}, impl.Breaker{State: state, Until: 5}, impl.Breaker{State: state, Fails: []int{5}})
	}
	return list
}

func TestBreakerOk(t *testing.T) {
	for _, b := range validBreakers() {
		if !impl.BreakerOk(b) {
			t.Errorf("BreakerOk(%v) is false", b)
		}
	}
	for _, b := range brokenBreakers() {
		if impl.BreakerOk(b) {
			t.Errorf("BreakerOk(%v) is true", b)
		}
	}
}

func TestDialsOfAClosedBreaker(t *testing.T) {
	for _, b := range []impl.Breaker{{}, closedWith(5), closedWith(3, 5, 5), closedWith(repeated(9, 20)...), closedWith(top)} {
		for _, now := range edgeTicks() {
			checkDial(t, b, now, b, true)
		}
		for _, now := range notTicks() {
			checkDial(t, b, now, b, false)
		}
	}
}

func TestNothingIsDialedBeforeUntil(t *testing.T) {
	for _, until := range []int{0, 1, 2, 50, top - 1, top} {
		for _, now := range []int{0, 1, 2, 3, 49, 50, 51, top - 2, top - 1, top} {
			if now < until {
				checkDial(t, openUntil(until), now, openUntil(until), false)
			} else {
				checkDial(t, openUntil(until), now, halfOf(until), true)
			}
		}
		for _, now := range notTicks() {
			checkDial(t, openUntil(until), now, openUntil(until), false)
		}
	}
}

func TestNoDialDuringATrial(t *testing.T) {
	for _, until := range edgeTicks() {
		for _, now := range append(edgeTicks(), notTicks()...) {
			checkDial(t, halfOf(until), now, halfOf(until), false)
		}
	}
}

func TestFailuresOfAClosedBreaker(t *testing.T) {
	cases := []struct {
		window, trips, cool int
		fails               []int
		now                 int
		want                impl.Breaker
	}{
		// The first failure, one less than Trips, and the Trips-th.
		{10, 3, 5, nil, 0, closedWith(0)},
		{10, 3, 5, nil, 7, closedWith(7)},
		{10, 3, 5, []int{7}, 8, closedWith(7, 8)},
		{10, 3, 5, []int{7, 8}, 9, openUntil(14)},
		// More than Trips, which another configuration may leave behind.
		{10, 3, 5, []int{6, 7, 8}, 9, openUntil(14)},
		{10, 3, 5, repeated(8, 20), 9, openUntil(14)},
		{10, 3, 5, repeated(8, 20), 19, closedWith(19)},
		// Equal times count each.
		{10, 3, 5, []int{4}, 4, closedWith(4, 4)},
		{10, 3, 5, []int{4, 4}, 4, openUntil(9)},
		{10, 3, 5, []int{0, 0}, 0, openUntil(5)},
		// Exactly Window old, and one tick older.
		{10, 2, 5, []int{20}, 30, openUntil(35)},
		{10, 2, 5, []int{20}, 31, closedWith(31)},
		{10, 3, 5, []int{20, 21}, 30, openUntil(35)},
		{10, 3, 5, []int{20, 21}, 31, closedWith(21, 31)},
		{10, 3, 5, []int{20, 21}, 32, closedWith(32)},
		{10, 4, 5, []int{20, 20, 25}, 30, openUntil(35)},
		{10, 4, 5, []int{20, 20, 25}, 31, closedWith(25, 31)},
		{10, 4, 5, []int{20, 21, 25}, 31, closedWith(21, 25, 31)},
		{10, 3, 5, []int{1, 2, 20, 21}, 30, openUntil(35)},
		// Not yet a Window since 0.
		{10, 3, 5, []int{0, 0}, 9, openUntil(14)},
		{10, 3, 5, []int{0, 0}, 10, openUntil(15)},
		{10, 3, 5, []int{0, 0}, 11, closedWith(11)},
		{1000000, 3, 5, []int{0, 1}, 1000000, openUntil(1000005)},
		{1000000, 3, 5, []int{0, 1}, 1000001, closedWith(1, 1000001)},
		// The smallest Window.
		{1, 2, 5, []int{8}, 8, openUntil(13)},
		{1, 2, 5, []int{8}, 9, openUntil(14)},
		{1, 2, 5, []int{8}, 10, closedWith(10)},
		// Trips at both ends.
		{10, 1, 5, nil, 0, openUntil(5)},
		{10, 1, 5, nil, top, openUntil(top)},
		{10, 1, 5, []int{3}, 90, openUntil(95)},
		{10, 20, 5, repeated(7, 18), 8, closedWith(append(repeated(7, 18), 8)...)},
		{10, 20, 5, repeated(7, 19), 8, openUntil(13)},
		{10, 20, 5, repeated(7, 20), 8, openUntil(13)},
		{10, 20, 5, append([]int{6}, repeated(7, 18)...), 16, openUntil(21)},
		{10, 20, 5, append([]int{6}, repeated(7, 18)...), 17, closedWith(append(repeated(7, 18), 17)...)},
		{10, 20, 5, append([]int{6}, repeated(7, 19)...), 17, openUntil(22)},
		// Both ends of Cool, and an Until that is limited.
		{10, 1, 1, nil, 40, openUntil(41)},
		{10, 1, 1000000, nil, 40, openUntil(1000040)},
		{10, 1, 5, nil, top - 6, openUntil(top - 1)},
		{10, 1, 5, nil, top - 5, openUntil(top)},
		{10, 1, 5, nil, top - 4, openUntil(top)},
		{10, 1, 1000000, nil, top - 1000001, openUntil(top - 1)},
		{10, 1, 1000000, nil, top - 1, openUntil(top)},
		{10, 3, 5, []int{top - 10, top}, top, openUntil(top)},
		{10, 3, 5, []int{top - 11, top}, top, closedWith(top, top)},
	}
	for _, c := range cases {
		checkFailure(t, breakerConfig(c.window, c.trips, c.cool), closedWith(c.fails...), c.now, c.want, true)
	}
}

func TestFailureBeforeTheLast(t *testing.T) {
	for _, trips := range []int{1, 2, 3, 20} {
		c := breakerConfig(10, trips, 5)
		for _, b := range []impl.Breaker{closedWith(5), closedWith(1, 5), closedWith(5, 5, 5), closedWith(repeated(5, 20)...)} {
			for _, now := range []int{0, 3, 4} {
				checkFailure(t, c, b, now, b, false)
			}
			if _, ok := impl.OnFailure(c, b, 5); !ok {
				t.Errorf("a failure at the time of the last of %v is refused", b)
			}
		}
	}
	checkFailure(t, breakerConfig(10, 3, 5), closedWith(top), top-1, closedWith(top), false)
	checkFailure(t, breakerConfig(10, 3, 5), closedWith(top), top, closedWith(top, top), true)
}

func TestTrialFails(t *testing.T) {
	for _, trips := range []int{1, 2, 20} {
		c := breakerConfig(10, trips, 5)
		cases := []struct{ until, now, want int }{
			{20, 20, 25}, {20, 21, 26}, {20, 500, 505}, {0, 0, 5}, {top, top, top}, {5, top - 6, top - 1}, {5, top - 5, top}, {5, top - 4, top},
			// The chapter does not require that now has reached Until.
			{20, 19, 24}, {20, 0, 5}, {top, 0, 5},
		}
		for _, k := range cases {
			checkFailure(t, c, halfOf(k.until), k.now, openUntil(k.want), true)
		}
	}
}

func TestTrialSucceeds(t *testing.T) {
	for _, until := range edgeTicks() {
		checkSuccess(t, halfOf(until), impl.Breaker{}, true)
	}
}

func TestOpenBreakerIgnoresResults(t *testing.T) {
	for _, trips := range []int{1, 5, 20} {
		c := breakerConfig(10, trips, 5)
		for _, until := range edgeTicks() {
			checkSuccess(t, openUntil(until), openUntil(until), true)
			for _, now := range edgeTicks() {
				checkFailure(t, c, openUntil(until), now, openUntil(until), true)
			}
		}
	}
}

func TestClosedBreakerKeepsItsFailsAfterASuccess(t *testing.T) {
	for _, b := range []impl.Breaker{{}, closedWith(0), closedWith(3, 5, 5), closedWith(repeated(9, 20)...), closedWith(top)} {
		checkSuccess(t, b, b, true)
	}
}

func TestInvalidBreakersAreRefused(t *testing.T) {
	times := append(edgeTicks(), notTicks()...)
	for _, b := range brokenBreakers() {
		checkSuccess(t, b, b, false)
		for _, now := range times {
			checkDial(t, b, now, b, false)
			for _, trips := range []int{1, 20} {
				checkFailure(t, breakerConfig(10, trips, 5), b, now, b, false)
			}
			checkFailure(t, impl.Config{}, b, now, b, false)
		}
	}
}

func TestFailuresWithInvalidConfigs(t *testing.T) {
	for _, c := range brokenConfigs() {
		for _, b := range validBreakers() {
			for _, now := range []int{0, 9, top, -1, top + 1} {
				checkFailure(t, c, b, now, b, false)
			}
		}
	}
}

func TestFailuresAtNoTick(t *testing.T) {
	for _, trips := range []int{1, 2, 20} {
		for _, b := range validBreakers() {
			for _, now := range notTicks() {
				checkFailure(t, breakerConfig(10, trips, 5), b, now, b, false)
			}
		}
	}
}

func TestPlayBreaker(t *testing.T) {
	c := breakerConfig(10, 2, 5)
	cases := []struct {
		events  [][2]int
		want    impl.Breaker
		answers []int
		opened  []int
	}{
		{nil, impl.Breaker{}, nil, nil},
		{[][2]int{}, impl.Breaker{}, nil, nil},
		{[][2]int{{dials, 4}, {succeeds, 5}, {dials, 6}}, impl.Breaker{}, []int{1, 1, 1}, nil},
		// A failure that leaves the window, then a second one within it.
		{[][2]int{{fails, 0}, {fails, 11}, {fails, 21}}, openUntil(26), []int{1, 1, 1}, []int{2}},
		{[][2]int{{fails, 0}, {fails, 10}}, openUntil(15), []int{1, 1}, []int{1}},
		{[][2]int{{fails, 0}, {fails, 11}}, closedWith(11), []int{1, 1}, nil},
		// A success between two failures does not make the first one forgotten.
		{[][2]int{{fails, 3}, {succeeds, 4}, {fails, 5}}, openUntil(10), []int{1, 1, 1}, []int{2}},
		// Dials of an open breaker, the trial, and a second dial during it.
		{[][2]int{{fails, 3}, {fails, 3}, {dials, 7}, {dials, 8}, {dials, 8}, {dials, 99}}, halfOf(8), []int{1, 1, 0, 1, 0, 0}, []int{1}},
		{[][2]int{{fails, 3}, {fails, 3}, {fails, 4}, {succeeds, 4}, {dials, 7}}, openUntil(8), []int{1, 1, 1, 1, 0}, []int{1}},
		// A trial that fails, and then one that succeeds.
		{[][2]int{{fails, 3}, {fails, 3}, {dials, 8}, {fails, 9}, {dials, 13}, {dials, 14}, {succeeds, 20}},
			impl.Breaker{}, []int{1, 1, 1, 1, 0, 1, 1}, []int{1, 3}},
		// After the trial the count begins anew, and time may be earlier.
		{[][2]int{{fails, 3}, {fails, 3}, {dials, 8}, {succeeds, 8}, {fails, 9}}, closedWith(9), []int{1, 1, 1, 1, 1}, []int{1}},
		{[][2]int{{fails, 3}, {fails, 3}, {dials, 8}, {succeeds, 8}, {fails, 1}, {fails, 2}}, openUntil(7), []int{1, 1, 1, 1, 1, 1}, []int{1, 5}},
		// Refused events and Kinds without a meaning change nothing.
		{[][2]int{{fails, 9}, {fails, 8}, {fails, -1}, {fails, top + 1}, {dials, -1}, {dials, top + 1}}, closedWith(9), []int{1, 0, 0, 0, 0, 0}, nil},
		{[][2]int{{fails, 9}, {3, 9}, {-1, 9}, {math.MinInt, 9}, {math.MaxInt, 9}, {4, -1}}, closedWith(9), []int{1, -1, -1, -1, -1, -1}, nil},
		{[][2]int{{fails, 9}, {fails, 9}, {5, 9}, {fails, -1}, {fails, 10}}, openUntil(14), []int{1, 1, -1, 0, 1}, []int{1}},
		{[][2]int{{-1, 0}}, impl.Breaker{}, []int{-1}, nil},
		// OnSuccess has no time, so that of its event does not matter.
		{[][2]int{{succeeds, -1}, {succeeds, top + 1}, {succeeds, math.MinInt}}, impl.Breaker{}, []int{1, 1, 1}, nil},
		{[][2]int{{fails, 3}, {fails, 3}, {dials, 8}, {succeeds, -7}}, impl.Breaker{}, []int{1, 1, 1, 1}, []int{1}},
		{[][2]int{{fails, top}, {fails, top}, {dials, top - 1}, {dials, top}, {fails, top}, {dials, top}}, halfOf(top), []int{1, 1, 0, 1, 1, 1}, []int{1, 4}},
	}
	for _, k := range cases {
		checkPlay(t, c, eventsOf(k.events...), k.want, k.answers, k.opened)
	}
}

func TestOpensAtTheTripsthFailure(t *testing.T) {
	for trips := 1; trips <= 20; trips++ {
		for _, window := range []int{1, 30, 1000000} {
			c := breakerConfig(window, trips, 5)
			events := make([]impl.BreakEvent, trips)
			for k := range events {
				// All within a Window, from its first tick to its last.
				events[k] = impl.BreakEvent{Kind: fails, Now: 100 + k*window/max(trips-1, 1)}
				now := events[k].Now
				b, _ := impl.PlayBreaker(c, events[:k+1])
				if k+1 < trips && (b.State != impl.BreakClosed || len(b.Fails) != k+1 || !impl.MayDial(b, now)) {
					t.Errorf("Trips %d, after %d failures: %v", trips, k+1, b)
				}
				if k+1 == trips && (!sameBreaker(b, openUntil(now+5)) || impl.MayDial(b, now+4) || !impl.MayDial(b, now+5)) {
					t.Errorf("Trips %d, after %d failures: %v", trips, k+1, b)
				}
			}
			if opened := impl.OpenSpans(c, events); !slices.Equal(opened, []int{trips - 1}) {
				t.Errorf("Trips %d: opened at %v", trips, opened)
			}
			// One tick later the first failure is too old.
			events[trips-1].Now++
			if opened := impl.OpenSpans(c, events); trips > 1 && len(opened) != 0 {
				t.Errorf("Trips %d, Window %d exceeded: opened at %v", trips, window, opened)
			}
		}
	}
}

// eventsOf expects the Kind and the time of each event.
func eventsOf(pairs ...[2]int) []impl.BreakEvent {
	var list []impl.BreakEvent
	for _, p := range pairs {
		list = append(list, impl.BreakEvent{Kind: p[0], Now: p[1]})
	}
	return list
}

func repeatedEvent(kind, now, n int) []impl.BreakEvent {
	return slices.Repeat([]impl.BreakEvent{{Kind: kind, Now: now}}, n)
}

func TestNumberOfBreakEvents(t *testing.T) {
	c := breakerConfig(10, 20, 5)
	checkPlay(t, c, repeatedEvent(dials, 7, impl.MaxList), impl.Breaker{}, repeated(1, impl.MaxList), nil)
	checkPlay(t, c, repeatedEvent(fails, 7, impl.MaxList), openUntil(12), repeated(1, impl.MaxList), []int{19})
	checkPlay(t, c, repeatedEvent(fails, 7, impl.MaxList-1), openUntil(12), repeated(1, impl.MaxList-1), []int{19})
	checkPlay(t, c, repeatedEvent(9, 7, impl.MaxList), impl.Breaker{}, repeated(-1, impl.MaxList), nil)
	for _, n := range []int{impl.MaxList + 1, 10 * impl.MaxList} {
		for _, kind := range []int{dials, fails, succeeds, 9} {
			checkPlay(t, c, repeatedEvent(kind, 7, n), impl.Breaker{}, nil, nil)
			checkPlay(t, impl.Config{}, repeatedEvent(kind, 7, n), impl.Breaker{}, nil, nil)
		}
	}
}

func TestPlaysWithInvalidConfigs(t *testing.T) {
	for _, c := range brokenConfigs() {
		for _, events := range [][]impl.BreakEvent{nil, repeatedEvent(dials, 0, 1), repeatedEvent(9, 0, 1), repeatedEvent(fails, 7, 20), repeatedEvent(fails, 7, impl.MaxList)} {
			checkPlay(t, c, events, impl.Breaker{}, nil, nil)
		}
	}
}

// plainBreaker keeps every failure since it closed and counts at each failure
// those within the window.
type plainBreaker struct {
	c     impl.Config
	state int
	all   []int
	until int
}

func (m *plainBreaker) inWindow(now int) []int {
	var list []int
	for _, at := range m.all {
		if now-at <= m.c.Window {
			list = append(list, at)
		}
	}
	return list
}

func (m *plainBreaker) open(now int) {
	m.state, m.all, m.until = impl.BreakOpen, nil, min(now+m.c.Cool, top)
}

func (m *plainBreaker) fail(now int) int {
	if now < 0 || now > top || len(m.all) > 0 && now < slices.Max(m.all) {
		return 0
	}
	if m.state == impl.BreakClosed {
		m.all = append(m.all, now)
	}
	if m.state == impl.BreakHalf || m.state == impl.BreakClosed && len(m.inWindow(now)) >= m.c.Trips {
		m.open(now)
	}
	return 1
}

func (m *plainBreaker) dial(now int) int {
	if now < 0 || now > top || m.state == impl.BreakHalf || m.state == impl.BreakOpen && now < m.until {
		return 0
	}
	if m.state == impl.BreakOpen {
		m.state = impl.BreakHalf
	}
	return 1
}

func (m *plainBreaker) succeed() int {
	if m.state == impl.BreakHalf {
		m.state, m.until = impl.BreakClosed, 0
	}
	return 1
}

func (m *plainBreaker) tell(e impl.BreakEvent) int {
	switch e.Kind {
	case dials:
		return m.dial(e.Now)
	case fails:
		return m.fail(e.Now)
	case succeeds:
		return m.succeed()
	}
	return -1
}

func (m *plainBreaker) breaker() impl.Breaker {
	b := impl.Breaker{State: m.state, Until: m.until}
	if len(m.all) > 0 {
		b.Fails = m.inWindow(slices.Max(m.all))
	}
	return b
}

// drawnEvents are mostly in the order of time, with pauses around Window and Cool.
func drawnEvents(c impl.Config, draw func(int) int, start, n int) []impl.BreakEvent {
	pauses := []int{0, 0, 0, 1, 1, 2, c.Window / 4, c.Window/c.Trips + 1, c.Window, c.Window + 1, c.Cool - 1, c.Cool, c.Cool + 1, -1, -c.Cool}
	now := start
	events := make([]impl.BreakEvent, n)
	for k := range events {
		pause := pauses[draw(len(pauses))]
		if c.Window > 100 && pause > 100 && draw(3) > 0 {
			pause = draw(10)
		}
		now = min(now+pause, top)
		kind := []int{dials, dials, fails, fails, fails, fails, fails, succeeds}[draw(8)]
		if draw(40) == 0 {
			kind = []int{-1, 3, 4, math.MaxInt}[draw(4)]
		}
		events[k] = impl.BreakEvent{Kind: kind, Now: now}
	}
	return events
}

// checkStory follows the events with the single functions, with PlayBreaker and
// OpenSpans, and with the model.
func checkStory(t *testing.T, c impl.Config, events []impl.BreakEvent) {
	t.Helper()
	m := &plainBreaker{c: c}
	b := impl.Breaker{}
	var answers, opened []int
	for k, e := range events {
		before, next, ok := m.state, b, false
		switch e.Kind {
		case dials:
			if next, ok = impl.OnDial(b, e.Now); ok != impl.MayDial(b, e.Now) {
				t.Fatalf("event %d of %v: OnDial %v, MayDial %v", k, events, ok, !ok)
			}
		case fails:
			next, ok = impl.OnFailure(c, b, e.Now)
		case succeeds:
			next, ok = impl.OnSuccess(b)
		}
		answer := m.tell(e)
		if ok != (answer == 1) || !sameBreaker(next, m.breaker()) || !impl.BreakerOk(next) {
			t.Fatalf("event %d of %v, Window %d, Trips %d, Cool %d: %v, %v, want %v, %d", k, events, c.Window, c.Trips, c.Cool, next, ok, m.breaker(), answer)
		}
		if before != impl.BreakOpen && m.state == impl.BreakOpen {
			opened = append(opened, k)
		}
		b = next
		answers = append(answers, answer)
	}
	checkPlay(t, c, events, m.breaker(), answers, opened)
}

func TestBreakerFollowsTheModel(t *testing.T) {
	draw := drawer(6)
	var reached [3]bool
	for range 3000 {
		c := breakerConfig([]int{1, 2, 10, 60, 1000000}[draw(5)], 1+draw([]int{3, 6, 20}[draw(3)]), []int{1, 5, 20, 1000000}[draw(4)])
		events := drawnEvents(c, draw, []int{0, 30, 5000, top - 20}[draw(4)], draw(impl.MaxList+1))
		checkStory(t, c, events)
		b, _ := impl.PlayBreaker(c, events)
		reached[b.State] = true
	}
	if reached != [3]bool{true, true, true} {
		t.Errorf("the stories end in these states: %v", reached)
	}
}

// TestEveryShortStory tells all sequences of five events over a few times.
func TestEveryShortStory(t *testing.T) {
	var choices []impl.BreakEvent
	for _, now := range []int{5, 7, 8, 10} {
		choices = append(choices, impl.BreakEvent{Kind: dials, Now: now}, impl.BreakEvent{Kind: fails, Now: now})
	}
	choices = append(choices, impl.BreakEvent{Kind: succeeds}, impl.BreakEvent{Kind: 3})
	for _, c := range []impl.Config{breakerConfig(2, 2, 2), breakerConfig(3, 3, 1), breakerConfig(1, 1, 3)} {
		for code := range 100000 {
			events := make([]impl.BreakEvent, 5)
			for k, rest := 0, code; k < 5; k, rest = k+1, rest/10 {
				events[k] = choices[rest%10]
			}
			checkStory(t, c, events)
		}
	}
}

// TestDrawnFails tells a failure to breakers that no story of one configuration reaches.
func TestDrawnFails(t *testing.T) {
	draw := drawer(66)
	for range 20000 {
		c := breakerConfig(1+draw(20), 1+draw(20), 1+draw(20))
		list := make([]int, draw(21))
		for k := range list {
			list[k] = draw(30)
		}
		slices.Sort(list)
		now := draw(50)
		m := &plainBreaker{c: c, all: slices.Clone(list)}
		accepted := m.fail(now) == 1
		want := m.breaker()
		if !accepted {
			want = closedWith(list...)
		}
		checkFailure(t, c, closedWith(list...), now, want, accepted)
	}
}

func TestBreakerDependsOnlyOnItsFields(t *testing.T) {
	story := append(repeatedEvent(fails, 7, 5), eventsOf([][2]int{{dials, 26}, {dials, 27}, {fails, 30}}...)...)
	for k, f := range fieldRanges() {
		if f.name == "window" || f.name == "trips" || f.name == "cool" {
			continue
		}
		for _, x := range []int{f.least, f.most} {
			checkPlay(t, withField(roomyConfig(k), k, x), story, openUntil(50), []int{1, 1, 1, 1, 1, 0, 1, 1}, []int{4, 7})
		}
	}
}

// checkUnshared changes the result and then the argument, and expects that the
// other of them stays as it is.
func checkUnshared(t *testing.T, what string, b impl.Breaker, call func(impl.Breaker) impl.Breaker) {
	t.Helper()
	room := append(make([]int, 0, 40), b.Fails...)
	whole := room[:cap(room)]
	for k := len(room); k < len(whole); k++ {
		whole[k] = 77
	}
	before := slices.Clone(whole)
	b.Fails = room
	got := call(b)
	again := call(b)
	kept := copyOfBreaker(again)
	if !slices.Equal(whole, before) {
		t.Errorf("%s changed its argument: %v", what, whole)
	}
	changed := got.Fails[:cap(got.Fails)]
	for k := range changed {
		changed[k] = -5
	}
	if !slices.Equal(whole, before) || !sameBreaker(again, kept) {
		t.Errorf("%s: a change of the result changes the argument or the next result", what)
	}
	for k := range whole {
		whole[k] = -6
	}
	if !sameBreaker(again, kept) {
		t.Errorf("%s: a change of the argument changes the result", what)
	}
}

func TestBreakersShareNoMemory(t *testing.T) {
	c := breakerConfig(10, 20, 5)
	breakers := append(brokenBreakers(), validBreakers()...)
	for _, b := range append(breakers, closedWith(1, 2, 3), closedWith(repeated(9, 19)...)) {
		if len(b.Fails) > 40 {
			continue
		}
		for _, now := range []int{-1, 0, 9, 15, top} {
			checkUnshared(t, "OnDial", b, func(b impl.Breaker) impl.Breaker { next, _ := impl.OnDial(b, now); return next })
			checkUnshared(t, "OnFailure", b, func(b impl.Breaker) impl.Breaker { next, _ := impl.OnFailure(c, b, now); return next })
		}
		checkUnshared(t, "OnSuccess", b, func(b impl.Breaker) impl.Breaker { next, _ := impl.OnSuccess(b); return next })
		checkUnshared(t, "BreakerOk and MayDial", b, func(b impl.Breaker) impl.Breaker {
			impl.BreakerOk(b)
			impl.MayDial(b, 9)
			return impl.Breaker{}
		})
	}
}

func TestPlaysShareNoMemory(t *testing.T) {
	c := breakerConfig(10, 3, 5)
	events := eventsOf([][2]int{{fails, 1}, {fails, 2}, {fails, 3}, {dials, 8}, {succeeds, 8}, {fails, 9}, {5, 9}}...)
	before := slices.Clone(events)
	b, answers := impl.PlayBreaker(c, events)
	opened := impl.OpenSpans(c, events)
	if !slices.Equal(events, before) {
		t.Errorf("the events are changed: %v", events)
	}
	for _, list := range [][]int{b.Fails, answers, opened} {
		whole := list[:cap(list)]
		for k := range whole {
			whole[k] = -5
		}
		if !slices.Equal(events, before) {
			t.Errorf("a change of a result changes the events: %v", events)
		}
		checkPlay(t, c, events, closedWith(9), []int{1, 1, 1, 1, 1, 1, -1}, []int{2})
	}
	b, answers = impl.PlayBreaker(c, events)
	b.Fails[0] = -5
	if answers[0] != 1 {
		t.Error("the two results share memory")
	}
}
