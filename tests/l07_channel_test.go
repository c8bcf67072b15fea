package tests

import (
	"math"
	"slices"
	"testing"

	"loop.example/g00722/impl"
)

const (
	idle       = impl.ChanIdle
	connecting = impl.ChanConnecting
	ready      = impl.ChanReady
	failing    = impl.ChanFailing
	shut       = impl.ChanShut
)

// The events of a channel, by the names of the document.
const (
	evWanted = iota
	evOpen
	evFailed
	evAgain
	evLost
	evQuiet
	evShut
)

const (
	stateCount = 5
	eventCount = 7
)

// farNumbers are neither states nor events.
func farNumbers() []int {
	return []int{-1, -2, eventCount, eventCount + 1, 256, 1 << 32, 1<<32 + 1, top, -top, math.MaxInt, math.MinInt, math.MinInt + 1}
}

// notStates contains the events that are no states.
func notStates() []int { return append(farNumbers(), 5, 6) }

// stepTable has a row for each state with the states after the events 0 to 6.
func stepTable() [stateCount][eventCount]int {
	return [stateCount][eventCount]int{
		{connecting, idle, idle, idle, idle, idle, shut},
		{connecting, ready, failing, connecting, connecting, idle, shut},
		{ready, ready, ready, ready, idle, idle, shut},
		{failing, ready, failing, connecting, failing, idle, shut},
		{shut, shut, shut, shut, shut, shut, shut},
	}
}

func checkStep(t *testing.T, state, event, want int, wantChanged bool) {
	t.Helper()
	if got, changed := impl.StepChannel(state, event); got != want || changed != wantChanged {
		t.Errorf("StepChannel(%d, %d) = %d, %v, want %d, %v", state, event, got, changed, want, wantChanged)
	}
}

func checkPlayed(t *testing.T, events []int, want []int) {
	t.Helper()
	last := idle
	if len(want) > 0 {
		last = want[len(want)-1]
	}
	if got, states := impl.PlayChannel(events); got != last || !slices.Equal(states, want) {
		t.Errorf("PlayChannel(%v) = %d, %v, want %d, %v", events, got, states, last, want)
	}
}

func checkWatched(t *testing.T, events []int, state int, want ...int) {
	t.Helper()
	if got := impl.Watched(events, state); !slices.Equal(got, want) {
		t.Errorf("Watched(%v, %d) = %v, want %v", events, state, got, want)
	}
}

func checkShortest(t *testing.T, from, to int, want []int, wantOk bool) {
	t.Helper()
	if got, ok := impl.ShortestEvents(from, to); !slices.Equal(got, want) || ok != wantOk {
		t.Errorf("ShortestEvents(%d, %d) = %v, %v, want %v, %v", from, to, got, ok, want, wantOk)
	}
	if got := impl.CanReach(from, to); got != wantOk {
		t.Errorf("CanReach(%d, %d) = %v, want %v", from, to, got, wantOk)
	}
}

func TestStatesOfAChannel(t *testing.T) {
	if got := [...]int{idle, connecting, ready, failing, shut}; got != [...]int{0, 1, 2, 3, 4} {
		t.Errorf("the states are %v", got)
	}
	for state, name := range []string{"idle", "connecting", "ready", "failing", "shut"} {
		if got := impl.ChannelName(state); got != name {
			t.Errorf("ChannelName(%d) = %q, want %q", state, got, name)
		}
	}
	for _, state := range notStates() {
		if got := impl.ChannelName(state); got != "" {
			t.Errorf("ChannelName(%d) = %q, want no name", state, got)
		}
	}
}

func TestEveryStateAndEvent(t *testing.T) {
	for state, row := range stepTable() {
		for event, next := range row {
			checkStep(t, state, event, next, next != state)
		}
	}
}

// TestRowsOfTheDocument follows the document's table, one row after the other,
// because the table by states above is a second reading of it.
func TestRowsOfTheDocument(t *testing.T) {
	rows := []struct {
		event int
		from  []int
		to    int
	}{
		{evWanted, []int{idle}, connecting},
		{evOpen, []int{connecting, failing}, ready},
		{evFailed, []int{connecting}, failing},
		{evAgain, []int{failing}, connecting},
		{evLost, []int{ready}, idle},
		{evQuiet, []int{ready, connecting, failing}, idle},
		{evShut, []int{idle, connecting, ready, failing}, shut},
	}
	for event, row := range rows {
		if row.event != event {
			t.Fatalf("row %d is of the event %d", event, row.event)
		}
		for state := range stateCount {
			if slices.Contains(row.from, state) {
				checkStep(t, state, event, row.to, true)
			} else {
				checkStep(t, state, event, state, false)
			}
		}
	}
}

func TestStepsOfOtherNumbers(t *testing.T) {
	for _, state := range notStates() {
		for event := range eventCount {
			checkStep(t, state, event, state, false)
		}
		for _, event := range farNumbers() {
			checkStep(t, state, event, state, false)
		}
	}
	for state := range stateCount {
		for _, event := range farNumbers() {
			checkStep(t, state, event, state, false)
		}
	}
}

func TestPlayChannel(t *testing.T) {
	checkPlayed(t, nil, nil)
	checkPlayed(t, []int{}, nil)
	checkPlayed(t, []int{evWanted}, []int{connecting})
	checkPlayed(t, []int{evOpen}, []int{idle})
	checkPlayed(t, []int{evWanted, evOpen, evLost, evShut}, []int{connecting, ready, idle, shut})
	checkPlayed(t, []int{evWanted, evFailed, evOpen, evQuiet}, []int{connecting, failing, ready, idle})
	checkPlayed(t, []int{evWanted, evFailed, evAgain, evFailed, evFailed}, []int{connecting, failing, connecting, failing, failing})
	checkPlayed(t, []int{evQuiet, evLost, evAgain, evFailed, evOpen}, []int{idle, idle, idle, idle, idle})
	checkPlayed(t, []int{evShut, evWanted, evOpen}, []int{shut, shut, shut})
}

func TestPlaysWithUnknownEvents(t *testing.T) {
	for _, event := range farNumbers() {
		checkPlayed(t, []int{event}, []int{idle})
		events := []int{event, evWanted, event, evFailed, event, evOpen, event, evShut, event}
		checkPlayed(t, events, []int{idle, connecting, connecting, failing, failing, ready, ready, shut, shut})
		checkWatched(t, events, idle, 1)
		checkWatched(t, events, connecting, 3)
		checkWatched(t, events, failing, 5)
		checkWatched(t, events, ready, 7)
		checkWatched(t, events, shut)
	}
}

func TestNumberOfChannelEvents(t *testing.T) {
	events := repeated(evOpen, impl.MaxList)
	events[0], events[impl.MaxList-1] = evWanted, evQuiet
	states := repeated(ready, impl.MaxList)
	states[0], states[impl.MaxList-1] = connecting, idle
	checkPlayed(t, events, states)
	checkWatched(t, events, idle, 0)
	checkWatched(t, events, connecting, 1)
	checkWatched(t, events, ready, impl.MaxList-1)
	for _, last := range []int{evWanted, evShut, -1} {
		more := append(slices.Clone(events), last)
		if state, states := impl.PlayChannel(more); state != 0 || len(states) != 0 {
			t.Errorf("PlayChannel of MaxList + 1 events = %d, %v", state, states)
		}
		for state := range stateCount {
			checkWatched(t, more, state)
		}
	}
	shutFirst := repeated(evShut, impl.MaxList+1)
	if state, states := impl.PlayChannel(shutFirst); state != 0 || len(states) != 0 {
		t.Errorf("PlayChannel of MaxList + 1 shuts = %d, %v", state, states)
	}
}

func TestNothingChangesAfterShut(t *testing.T) {
	for event := range eventCount {
		checkStep(t, shut, event, shut, false)
	}
	draw := drawer(7)
	for range 200 {
		events := drawnChannelEvents(draw, 1+draw(30))
		cut := draw(len(events))
		events[cut] = evShut
		state, states := impl.PlayChannel(events)
		if state != shut {
			t.Fatalf("PlayChannel(%v) ends in %d", events, state)
		}
		for k := cut; k < len(states); k++ {
			if states[k] != shut {
				t.Fatalf("PlayChannel(%v) has %d at %d", events, states[k], k)
			}
		}
		checkWatched(t, events, shut)
	}
	for to := range shut {
		checkShortest(t, shut, to, nil, false)
	}
	checkShortest(t, shut, shut, nil, true)
}

func TestEveryStateCanBeReached(t *testing.T) {
	for from := range shut {
		for to := range stateCount {
			if !impl.CanReach(from, to) {
				t.Errorf("CanReach(%d, %d) is false", from, to)
			}
			events, ok := impl.ShortestEvents(from, to)
			if !ok {
				t.Errorf("ShortestEvents(%d, %d) finds nothing", from, to)
			}
			state := from
			for _, event := range events {
				next, changed := impl.StepChannel(state, event)
				if !changed {
					t.Errorf("ShortestEvents(%d, %d) = %v: %d changes nothing", from, to, events, event)
				}
				state = next
			}
			if state != to {
				t.Errorf("ShortestEvents(%d, %d) = %v leads to %d", from, to, events, state)
			}
		}
	}
}

func TestShortestEvents(t *testing.T) {
	want := [][][]int{
		{{}, {evWanted}, {evWanted, evOpen}, {evWanted, evFailed}, {evShut}},
		{{evQuiet}, {}, {evOpen}, {evFailed}, {evShut}},
		{{evLost}, {evLost, evWanted}, {}, {evLost, evWanted, evFailed}, {evShut}},
		{{evQuiet}, {evAgain}, {evOpen}, {}, {evShut}},
	}
	for from, row := range want {
		for to, events := range row {
			checkShortest(t, from, to, events, true)
		}
	}
}

// TestLostPrecedesQuiet has two shortest sequences of the same length.
func TestLostPrecedesQuiet(t *testing.T) {
	checkStep(t, ready, evQuiet, idle, true)
	checkShortest(t, ready, idle, []int{evLost}, true)
	checkShortest(t, ready, connecting, []int{evLost, evWanted}, true)
	checkShortest(t, ready, failing, []int{evLost, evWanted, evFailed}, true)
}

func TestWaysBetweenOtherNumbers(t *testing.T) {
	for _, other := range notStates() {
		for state := range stateCount {
			checkShortest(t, other, state, nil, false)
			checkShortest(t, state, other, nil, false)
		}
		for _, second := range notStates() {
			checkShortest(t, other, second, nil, false)
		}
	}
}

// firstSequence tries all sequences of at most four events, the shorter ones
// first and those of one length in lexicographic order.
func firstSequence(from, to int) ([]int, bool) {
	table := stepTable()
	for length := range stateCount {
		for number := range power(eventCount, length) {
			events := make([]int, length)
			for k, rest := length-1, number; k >= 0; k, rest = k-1, rest/eventCount {
				events[k] = rest % eventCount
			}
			state, changing := from, true
			for _, event := range events {
				changing = changing && table[state][event] != state
				state = table[state][event]
			}
			if changing && state == to {
				return events, true
			}
		}
	}
	return nil, false
}

func power(base, exponent int) int {
	product := 1
	for range exponent {
		product *= base
	}
	return product
}

func TestShortestAmongAllSequences(t *testing.T) {
	for from := range stateCount {
		for to := range stateCount {
			events, ok := firstSequence(from, to)
			checkShortest(t, from, to, events, ok)
		}
	}
}

func TestWatched(t *testing.T) {
	checkWatched(t, nil, idle)
	events := []int{evWanted, evOpen, evQuiet, evQuiet, evWanted, evFailed, evFailed, evShut, evWanted}
	checkWatched(t, events, idle, 0, 4)
	checkWatched(t, events, connecting, 1, 5)
	checkWatched(t, events, ready, 2)
	checkWatched(t, events, failing, 7)
	checkWatched(t, events, shut)
}

func TestStatesThatAreNeverLeft(t *testing.T) {
	checkWatched(t, []int{evOpen, evFailed, evAgain, evLost, evQuiet}, idle)
	checkWatched(t, []int{evWanted, evWanted, evAgain, evLost}, connecting)
	checkWatched(t, []int{evWanted, evOpen, evOpen, evWanted, evFailed, evAgain}, ready)
	checkWatched(t, []int{evWanted, evFailed, evWanted, evLost, evFailed}, failing)
	checkWatched(t, repeated(evShut, impl.MaxList), shut)
	checkWatched(t, []int{evWanted, evShut}, ready)
}

// TestStatesThatAreLeftByEveryEvent watches a state that the next event always leaves.
func TestStatesThatAreLeftByEveryEvent(t *testing.T) {
	checkWatched(t, []int{evShut}, idle, 0)
	events := []int{evWanted, evQuiet, evWanted, evFailed, evAgain, evOpen, evLost, evShut}
	checkWatched(t, events, idle, 0, 2, 7)
	checkWatched(t, events, connecting, 1, 3, 5)
	var turns, even, odd []int
	for k := 0; k < impl.MaxList; k += 2 {
		turns = append(turns, evWanted, evQuiet)
		even, odd = append(even, k), append(odd, k+1)
	}
	checkWatched(t, turns, idle, even...)
	checkWatched(t, turns, connecting, odd...)
}

func TestTheLastEventLeaves(t *testing.T) {
	checkWatched(t, []int{evOpen, evQuiet, evWanted}, idle, 2)
	checkWatched(t, []int{evWanted, evLost, evFailed}, connecting, 2)
	checkWatched(t, []int{evWanted, evOpen, evOpen, evLost}, ready, 3)
	checkWatched(t, []int{evWanted, evFailed, evShut}, failing, 2)
	events := append([]int{evWanted}, repeated(evLost, impl.MaxList-2)...)
	checkWatched(t, append(events, evOpen), connecting, impl.MaxList-1)
}

func TestWatchedOtherNumbers(t *testing.T) {
	events := []int{evWanted, evOpen, evLost, evShut}
	for _, state := range notStates() {
		checkWatched(t, events, state)
		checkWatched(t, nil, state)
		checkWatched(t, []int{state}, state)
	}
}

func drawnChannelEvents(draw func(int) int, n int) []int {
	events := make([]int, n)
	for k := range events {
		events[k] = draw(eventCount)
		if draw(12) == 0 {
			events[k] = farNumbers()[draw(len(farNumbers()))]
		} else if events[k] == evShut && draw(10) > 0 {
			events[k] = evWanted
		}
	}
	return events
}

func TestDrawnChannelEvents(t *testing.T) {
	table := stepTable()
	draw := drawer(70)
	for range 500 {
		events := drawnChannelEvents(draw, draw(60))
		var states []int
		var left [stateCount][]int
		state := idle
		for k, event := range events {
			next := state
			if 0 <= event && event < eventCount {
				next = table[state][event]
			}
			if next != state {
				left[state] = append(left[state], k)
			}
			state = next
			states = append(states, state)
		}
		checkPlayed(t, events, states)
		for state, want := range left {
			checkWatched(t, events, state, want...)
		}
	}
}

func TestChannelsShareNoMemory(t *testing.T) {
	full := []int{evWanted, evOpen, evLost, evWanted, evFailed, evShut, 9, 9}
	events := full[:6]
	kept := slices.Clone(full)
	_, states := impl.PlayChannel(events)
	left := impl.Watched(events, idle)
	_ = append(states, 99)
	for k := range states {
		states[k] = 99
	}
	for k := range left {
		left[k] = 99
	}
	if !slices.Equal(full, kept) {
		t.Errorf("the events are now %v", full)
	}
	checkPlayed(t, events, []int{connecting, ready, idle, connecting, failing, shut})
	checkWatched(t, events, idle, 0, 3)
}

// TestShortestEventsAreNew changes a result, which must not change the next one.
func TestShortestEventsAreNew(t *testing.T) {
	for from := range shut {
		for to := range stateCount {
			first, _ := impl.ShortestEvents(from, to)
			kept := slices.Clone(first)
			for k := range first {
				first[k] = 99
			}
			_ = append(first, 99)
			checkShortest(t, from, to, kept, true)
		}
	}
}
