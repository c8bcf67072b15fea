package tests

import (
	"testing"

	"loop.example/g00722/impl"
)

func TestRedialsOfThePool(t *testing.T) {
	p := story(t, "max=1 wait=1000 cap=16 jitter=50 trips=20", `
		borrow : dial 1
		dialed 1 0 0 : fail 1
		tick 1 : -
		tick 1 : dial 2
		dialed 2 0 1000 : fail 2
		tick 1 : -
		tick 1 : dial 3
		dialed 3 0 500 : fail 3
		tick 5 : -
		tick 1 : dial 4
		dialed 4 0 -7 : fail 4
		tick 15 : -
		tick 1 : dial 5
		dialed 5 0 1001 : fail 5
		tick 15 : -
		tick 1 : dial 6
		dialed 6 0 1000 : fail 6
		tick 7 : -
		tick 1 : dial 7`)
	checkTally(t, "redials", p, tally{now: 50, dialing: 1, waiting: 1, wanted: 1, next: 1000})
	if p.Fails != 6 || p.RedialAt != 50 || len(p.Breaker.Fails) != 6 {
		t.Errorf("Fails %d, RedialAt %d, %v", p.Fails, p.RedialAt, p.Breaker)
	}
}

func TestSuccessForgetsFailures(t *testing.T) {
	stage := "borrow; dialed 1 0; tick 2; dialed 2 0; tick 4; dialed 3 1\n"
	p := story(t, "max=1 wait=100 trips=20", stage)
	if p.Fails != 0 || p.RedialAt != 0 {
		t.Errorf("Fails %d, RedialAt %d", p.Fails, p.RedialAt)
	}
	story(t, "max=1 wait=100 trips=20", stage+`
		invalid 3 1 : close 1 3
		borrow : dial 4
		dialed 4 0 : fail 4
		tick 1 : -
		tick 1 : dial 5`)
	// A dial that succeeds lets the pool fill at once, although another failed.
	p = story(t, "max=3 trips=20", `
		borrow : dial 1
		borrow : dial 2
		borrow : dial 3
		dialed 3 0 : fail 3
		dialed 1 0 : fail 1
		dialed 2 1 : open 2, grant 1 2, dial 4, dial 5`)
	checkTally(t, "after a success", p, tally{dialing: 2, held: 1, waiting: 2, wanted: 3, next: 30})
}

// TestWaitsForRedials: what asks for a connection before RedialAt does not dial.
func TestWaitsForRedials(t *testing.T) {
	stage := "borrow; dialed 1 0\n"
	for _, line := range []string{"borrow : -", "resize 2 2 : -", "evict : -", "tick 0 : -", "tick 1 : -", "cancel 1 : gone 1", "rest : mode 1"} {
		story(t, "", stage+line)
	}
	story(t, "max=3", stage+"borrow : -\n borrow : -\n tick 1 : -\n tick 1 : dial 2, dial 3, dial 4")
	story(t, "max=3", stage+"rest : mode 1\n tick 2 : -\n go : mode 0, dial 2")
	story(t, "max=3", stage+"rest : mode 1\n tick 1 : -\n go : mode 0\n tick 1 : dial 2")
	story(t, "min=2 max=2 idle=1", "tick 0; dialed 1 1; dialed 2 0\n evict : close 0 1\n tick 1 : -\n tick 1 : dial 3, dial 4")
	story(t, "min=1 max=2", "tick 0; dialed 1 1; borrow; borrow; dialed 2 0\n invalid 1 1 : close 1 1\n tick 2 : dial 3")
	// Several failures at one tick count as several.
	p := story(t, "max=3 wait=100 trips=20", "borrow; borrow; borrow; dialed 1 0; dialed 2 0\n dialed 3 0 : fail 3\n tick 7 : -\n tick 1 : dial 4, dial 5, dial 6")
	if p.Fails != 3 || p.RedialAt != 8 {
		t.Errorf("Fails %d, RedialAt %d", p.Fails, p.RedialAt)
	}
}

func TestFaultsWhileDialing(t *testing.T) {
	for _, op := range []string{"fault 1 0 ", "dialed 1 0 "} {
		for _, row := range []struct {
			draw     string
			redialAt int
		}{{"0", 28}, {"500", 26}, {"1000", 24}, {"1001", 28}, {"1501", 26}, {"-500", 28}, {"-9223372036854775808", 28}} {
			p := story(t, "max=1 base=8 cap=8 jitter=50", "borrow; tick 20\n"+op+row.draw+" : fail 1\n return 1 1 : bad\n fault 1 : bad\n dialed 1 1 : bad")
			if p.Fails != 1 || p.RedialAt != row.redialAt || len(p.Conns) != 0 || len(p.Breaker.Fails) != 1 || p.Breaker.Fails[0] != 20 {
				t.Errorf("%s%s: %s", op, row.draw, poolText(p))
			}
		}
	}
	// A fault of any other connection is no failed dial.
	for _, stage := range []string{"borrow; dialed 1 1", "borrow; dialed 1 1; return 1 1", "borrow; dialed 1 1; return 1 1; tick 4"} {
		p := story(t, "keep=4", stage+"; fault 1 5 5\n")
		if p.Fails != 0 || p.RedialAt != 0 || len(p.Conns) != 0 || len(p.Breaker.Fails) != 0 {
			t.Errorf("%q: %s", stage, poolText(p))
		}
	}
}

func TestBreakerOfThePool(t *testing.T) {
	story(t, "max=2 wait=1000 trips=2", `
		borrow : dial 1
		dialed 1 0 : fail 1
		tick 2 : dial 2
		dialed 2 0 : fail 2
		borrow : no 2
		tick 4 : -
		borrow 100 : no 3
		tick 15 : -
		borrow : no 4
		tick 1 : dial 3
		borrow : -
		tick 10 : -
		dialed 3 0 : fail 3
		borrow : no 6
		tick 19 : -
		tick 1 : dial 4
		dialed 4 1 : open 4, grant 1 4, dial 5
		borrow : -
		dialed 5 0 : fail 5
		tick 2 : dial 6
		dialed 6 0 : fail 6
		borrow : no 8
		return 4 1 : back 1 4, grant 5 4`)
}

func TestTripsWithinTheWindow(t *testing.T) {
	// At 0 and 60, the second failure is within the window; at 61 it is not.
	story(t, "max=1 wait=1000 trips=2 window=60", "borrow; dialed 1 0; tick 60\n dialed 2 0 : fail 2\n borrow : no 2")
	story(t, "max=1 wait=1000 trips=2 window=60", "borrow; dialed 1 0; tick 61\n dialed 2 0 : fail 2\n borrow : -\n tick 4 : dial 3")
	story(t, "max=1 wait=1000 trips=1", "borrow : dial 1\n dialed 1 0 : fail 1\n borrow : no 2\n tick 19 : -\n tick 1 : dial 2\n fault 2 : fail 2\n tick 19 : -\n tick 1 : dial 3")
}

// TestDelayAndBreaker: neither of the two is enough for a dial.
func TestDelayAndBreaker(t *testing.T) {
	// The breaker allows a trial at 5, and the delay ends at 10.
	story(t, "max=1 wait=1000 trips=1 cool=5 base=10 cap=10", `
		borrow : dial 1
		dialed 1 0 : fail 1
		tick 4 : -
		borrow : no 2
		tick 1 : -
		borrow : -
		tick 4 : -
		tick 1 : dial 2`)
	// The delay ends at 2.
	story(t, "max=1 wait=1000 trips=1 cool=5", "borrow; dialed 1 0\n tick 2 : -\n tick 2 : -\n borrow : no 2\n tick 1 : dial 2")
}

func TestBorrowWhileTheBreakerIsOpen(t *testing.T) {
	stage := "borrow; dialed 1 1; borrow; dialed 2 0\n" // 1 is held, and the breaker is open until 20
	story(t, "max=3 trips=1", stage+`
		borrow : no 3
		return 1 1 : back 1 1, grant 2 1
		return 1 2 : back 2 1
		borrow : grant 4 1
		borrow : no 5`)
	story(t, "max=3 trips=1", stage+`
		rest : mode 1
		borrow : no 3
		return 1 1 : back 1 1
		borrow : -
		borrow : -
		tick 19 : -
		evict : close 0 1
		borrow : no 6
		tick 1 : -
		borrow : -
		go : mode 0, dial 3`)
	// Connections that are being dialed or probed are not idle.
	story(t, "max=3 trips=1", "borrow; borrow; dialed 1 0\n borrow : no 3\n dialed 2 1 : open 2, grant 1 2\n borrow : no 4")
	story(t, "min=2 max=2 trips=1 keep=4 cool=30", "tick 0; dialed 1 1; tick 4; dialed 2 0\n borrow : no 1\n probed 1 1 : -\n borrow : grant 2 1")
}

// TestOneTrial: a half-open breaker allows no other dial.
func TestOneTrial(t *testing.T) {
	stage := "borrow; borrow; borrow; dialed 1 0; dialed 2 0; dialed 3 0; tick 19\n"
	story(t, "max=3 trips=1 wait=100", stage+"tick 1 : dial 4\n tick 5 : -\n borrow : -\n resize 4 4 : -\n dialed 4 1 : open 4, grant 1 4, dial 5, dial 6, dial 7")
	story(t, "max=3 trips=1 wait=100", stage+"tick 1 : dial 4\n tick 5 : -\n dialed 4 0 : fail 4\n tick 19 : -\n tick 1 : dial 5")
	// A dial that began before the breaker opened does not close it, but ends the delay.
	p := story(t, "max=2 trips=1 wait=100", "borrow; borrow; dialed 1 0\n dialed 2 1 : open 2, grant 1 2\n tick 19 : -\n")
	if p.Fails != 0 || p.RedialAt != 0 || !sameBreaker(p.Breaker, openUntil(20)) {
		t.Errorf("Fails %d, RedialAt %d, %v", p.Fails, p.RedialAt, p.Breaker)
	}
	// While the trial is under way, one that began before decides as well.
	story(t, "max=2 trips=1 wait=100", "borrow; borrow; dialed 1 0; tick 20\n dialed 2 0 : fail 2\n dialed 3 1 : open 3, grant 1 3\n tick 20 : dial 4")
}

func TestResizes(t *testing.T) {
	all := "tick 0; dialed 1 1; dialed 2 1; dialed 3 1; dialed 4 1\n"
	story(t, "min=4 max=4", all+"resize 0 2 : close 0 4, close 0 3\n tick 0 : -\n resize 0 1 : close 0 2\n resize 2 2 : dial 5")
	story(t, "min=4 max=4", all+"borrow : grant 1 1\n borrow : grant 2 2\n resize 0 1 : close 0 4, close 0 3\n borrow : -\n return 1 1 : back 1 1, close 0 1\n return 2 2 : back 2 2, grant 3 2")
	story(t, "min=4 max=4", all+"borrow : grant 1 1\n resize 1 2 : close 0 4, close 0 3\n fault 2 : close 0 2\n resize 2 2 : dial 5\n fault 1 : close 1 1, dial 6")
	// Connections that are not idle stay, and none is added.
	p := story(t, "min=4 max=4", "tick 0\n resize 0 2 : -\n tick 5 : -\n dialed 1 0 : fail 1\n borrow : -\n tick 2 : -\n dialed 2 0 : fail 2\n tick 4 : -\n dialed 3 0 : fail 3\n tick 8 : -\n borrow : dial 5")
	checkTally(t, "resized", p, tally{now: 19, dialing: 2, waiting: 2, wanted: 2, next: 35})
	// One that is opened while there are too many serves, or goes at the next tick.
	story(t, "min=3 max=3", "tick 0; resize 0 1\n dialed 1 1 : open 1\n dialed 2 1 : open 2\n borrow : grant 1 1\n tick 0 : close 0 2\n borrow : -\n dialed 3 1 : open 3, grant 2 3\n return 1 1 : back 1 1, close 0 1")
	// Room lets those of the line dial.
	story(t, "max=1", "borrow; borrow; borrow\n resize 0 2 : dial 2\n resize 1 12 : dial 3\n resize 12 12 : dial 4, dial 5, dial 6, dial 7, dial 8, dial 9, dial 10, dial 11, dial 12")
	// The other modes keep the new size.
	p = story(t, "max=1", "borrow; dialed 1 1; drain\n resize 2 3 : -\n return 1 1 : back 1 1, close 0 1, mode 3\n resize 3 4 : -")
	if p.Config.Min != 3 || p.Config.Max != 4 {
		t.Errorf("the size is %d, %d", p.Config.Min, p.Config.Max)
	}
	for _, op := range []string{"resize 5 4", "resize 0 0", "resize -1 3", "resize 0 13", "resize 13 13", "resize -9223372036854775808 9223372036854775807"} {
		story(t, "min=4 max=4", all+op+" : bad")
	}
}

func TestEvictions(t *testing.T) {
	story(t, "min=3 max=3", `
		tick 0; dialed 3 1; dialed 1 1; dialed 2 1
		borrow : grant 1 1
		evict : close 0 2, close 0 3, dial 4, dial 5
		evict : -`)
	story(t, "", "borrow; borrow; dialed 1 1; dialed 2 1; return 1 1; return 2 2\n evict : close 0 1, close 0 2\n evict : -\n borrow : dial 3")
	story(t, "min=1 trips=1", "tick 0; dialed 1 1; borrow; borrow; dialed 2 0; return 1 1; return 1 2\n evict : close 0 1\n borrow : no 3\n tick 20 : dial 3")
}

func TestTicketsBeyondTheQueue(t *testing.T) {
	c := poolConfig(t, "max=1 wait=1000")
	ops := opsOf(t, "borrow; dialed 1 1")
	for range impl.MaxQueue {
		ops = append(ops, opOf(t, "borrow"))
	}
	p, log, _ := played(t, c, ops)
	checkTally(t, "full", p, tally{held: 1, waiting: impl.MaxQueue, wanted: 1, next: 1000})
	full := len(log)
	rows := [][2]string{
		{"borrow", "no 62"}, {"borrow 5", "no 62"}, {"borrow; borrow", "no 62, no 63"}, {"cancel 62", ""}, {"borrow; cancel 62", "no 62"},
		{"cancel 61; borrow", "gone 61"}, {"return 1 1; borrow", "back 1 1, grant 2 1"}, {"borrow; cancel 2; borrow", "no 62, gone 2"},
	}
	for _, row := range rows {
		p, log, _ := played(t, c, append(ops[:len(ops):len(ops)], opsOf(t, row[0])...))
		if got := logText(log[full:]); got != row[1] || !impl.PoolSafe(p) {
			t.Errorf("%s: %q, want %q, of %s", row[0], got, row[1], poolText(p))
		}
	}
}

func TestWaitsAndDeadlines(t *testing.T) {
	story(t, "max=1 wait=7", `
		tick 3 : -
		borrow : dial 1
		borrow 2 : -
		borrow 1000000 : -
		borrow 7 : -
		tick 1 : -
		tick 1 : late 2
		tick 4 : -
		tick 1 : late 1, late 4
		tick 999992 : -
		tick 1 : late 3`)
	p := story(t, "max=1 wait=1000000000", "tick 3; borrow; borrow 1\n")
	if at := impl.DueOf(p.Line.Heap, 1); at != top {
		t.Errorf("the deadline is %d", at)
	}
	checkTally(t, "waits", p, tally{now: 3, dialing: 1, waiting: 2, wanted: 1, next: 4})
	// Those that were granted, or have left, are not late.
	story(t, "max=1 wait=7", "borrow; borrow; borrow; dialed 1 1; cancel 3\n tick 7 : late 2\n tick 100 : -\n return 1 1 : back 1 1")
}

func TestCancels(t *testing.T) {
	story(t, "max=2", `
		cancel 1 : bad
		borrow : dial 1
		cancel 1 : gone 1
		cancel 1 : bad
		borrow : -
		cancel 3 : bad
		dialed 1 1 : open 1, grant 2 1
		cancel 2 : bad
		borrow 3 : dial 2
		tick 3 : late 3
		cancel 3 : bad`)
	story(t, "max=1", "borrow; borrow; borrow; borrow\n cancel 1 : gone 1\n cancel 3 : gone 3\n dialed 1 1 : open 1, grant 2 1\n return 1 2 : back 2 1, grant 4 1")
}

// TestDrains drains with a connection that is held and follows the ticks up to
// DrainAt and past it.
func TestDrains(t *testing.T) {
	p := story(t, "", "tick 7; borrow; dialed 1 1\n drain : mode 2")
	if p.DrainAt != 57 {
		t.Errorf("DrainAt = %d", p.DrainAt)
	}
	checkTally(t, "drains", p, tally{now: 7, mode: 2, held: 1, wanted: 1, next: 57})
	stage := "tick 7; borrow; dialed 1 1; borrow; borrow; dialed 2 1; drain\n"
	rows := []string{
		"tick 49 : -\n tick 0 : -\n tick 1 : close 1 1, close 2 2, mode 3\n tick 1 : -",
		"tick 50 : close 1 1, close 2 2, mode 3",
		"tick 51 : close 1 1, close 2 2, mode 3\n return 1 1 : bad",
		"tick 1000000 : close 1 1, close 2 2, mode 3\n borrow : no 4",
		"return 2 2 : back 2 2, close 0 2\n return 1 1 : back 1 1, close 0 1, mode 3\n tick 50 : -",
		"invalid 1 1 : close 1 1\n tick 49 : -\n fault 2 : close 2 2, mode 3\n tick 1 : -",
		"fault 1 : close 1 1\n tick 50 : close 2 2, mode 3",
		"borrow : no 4\n cancel 3 : bad\n drain : bad\n rest : bad\n go : bad\n tick 49 : -\n return 1 1 : back 1 1, close 0 1\n borrow : no 5\n tick 1 : close 2 2, mode 3\n borrow : no 6",
		"evict : -\n resize 12 12 : -\n return 1 1 : back 1 1, close 0 1\n return 2 2 : back 2 2, close 0 2, mode 3\n resize 1 1 : -\n evict : -\n tick 5 : -",
		"shut : mode 3, close 1 1, close 2 2\n tick 50 : -\n shut : bad\n drain : bad",
	}
	for _, row := range rows {
		p := story(t, "", stage+row)
		if p.Mode == impl.ModeShut && (p.DrainAt != 57 || len(p.Conns) > 0 || len(impl.LineList(p.Line)) > 0) {
			t.Errorf("%s: %s", row, poolText(p))
		}
	}
}

func TestDrainsWithoutHolders(t *testing.T) {
	story(t, "", "drain : mode 2, mode 3\n drain : bad\n borrow : no 1\n tick 100 : -")
	story(t, "min=2", "tick 0\n drain : mode 2, close 0 1, close 0 2, mode 3\n dialed 1 1 : bad\n dialed 2 0 : bad\n fault 1 : bad\n tick 2 : -")
	story(t, "min=2", "tick 0; dialed 1 1\n drain : mode 2, close 0 1, close 0 2, mode 3")
	story(t, "max=1", "borrow; borrow; borrow 5\n drain : mode 2, no 1, no 2, no 3, close 0 1, mode 3\n tick 30 : -")
	story(t, "max=1", "rest; borrow; borrow\n drain : mode 2, no 1, no 2, mode 3\n go : bad")
	story(t, "max=1", "borrow; dialed 1 0\n drain : mode 2, no 1, mode 3\n tick 2 : -\n tick 2 : -")
	// A dial that ends while others are still held was closed when draining began.
	story(t, "max=2", "borrow; dialed 1 1; borrow\n drain : mode 2, no 2, close 0 2\n dialed 2 1 : bad\n dialed 2 0 : bad\n return 1 1 : back 1 1, close 0 1, mode 3\n dialed 2 1 : bad")
	p := story(t, "drain=1000000000", "tick 7; borrow; dialed 1 1; drain\n tick 1000000 : -")
	if p.DrainAt != top {
		t.Errorf("DrainAt = %d", p.DrainAt)
	}
	story(t, "drain=1", "borrow; dialed 1 1; drain\n tick 0 : -\n tick 1 : close 1 1, mode 3")
}

func TestShutFromEachMode(t *testing.T) {
	for _, stage := range []string{stageRuns, stageWaits, stageRests, "", "rest", "borrow", "borrow; dialed 1 0"} {
		p := story(t, stageFields, stage+"\n shut\n shut : bad\n drain : bad\n rest : bad\n go : bad\n dialed 3 1 : bad\n borrow\n evict : -\n resize 9 9 : -\n tick 1000 : -")
		if p.Mode != impl.ModeShut || p.DrainAt != 0 || len(p.Conns) > 0 || len(impl.LineList(p.Line)) > 0 {
			t.Errorf("%q: %s", stage, poolText(p))
		}
	}
	if p := story(t, stageFields, stageDrains+"\n shut : mode 3, close 1 1"); p.DrainAt != 60 || len(p.Conns) > 0 {
		t.Errorf("from draining: %s", poolText(p))
	}
	story(t, "", "shut : mode 3\n shut : bad\n borrow : no 1")
}

func TestPoolNext(t *testing.T) {
	rows := []struct {
		fields, ops string
		next        int
	}{
		{"", "", -1},
		{"min=2", "tick 5", -1},
		{"min=1", "tick 5; dialed 1 1", -1},
		// Expiries.
		{"", "borrow", 30},
		{"", "tick 5; borrow 7", 12},
		{"max=1", "tick 5; borrow 7; borrow 4; borrow 9", 9},
		{"max=1", "tick 5; borrow 7; borrow 4; borrow 9; cancel 2", 12},
		{"max=1", "tick 5; borrow 7; borrow 4; borrow 9; dialed 1 1", 9},
		{"max=1", "borrow; dialed 1 1", -1},
		{"", "rest; borrow 8", 8},
		// Deadlines of connections.
		{"min=1 life=50", "tick 5; dialed 1 1", 55},
		{"min=1 life=50 idle=20", "tick 5; dialed 1 1", 25},
		{"min=1 life=50 idle=20 keep=10", "tick 5; dialed 1 1", 15},
		{"min=2 life=50 idle=20 keep=10", "tick 5; dialed 2 1; tick 2; dialed 1 1", 15},
		{"min=2 life=50 idle=20 keep=10", "tick 5; dialed 1 1; tick 2; dialed 2 1; borrow", 17},
		{"leak=40", "tick 5; borrow; dialed 1 1", 45},
		{"leak=40", "tick 5; borrow; dialed 1 1; tick 40", -1},
		{"leak=40 keep=10", "borrow; dialed 1 1; return 1 1; tick 10", -1},
		{"min=1 idle=10", "tick 0; dialed 1 1; tick 20", 10}, // due, but one of Min
		{"min=1 keep=10", "tick 0; dialed 1 1; borrow; borrow 7", 7},
		// Draining.
		{"", "tick 7; borrow; dialed 1 1; drain", 57},
		{"leak=20", "tick 7; borrow; dialed 1 1; drain", 27},
		{"leak=80", "tick 7; borrow; dialed 1 1; drain", 57},
		{"leak=20", "tick 7; borrow; dialed 1 1; drain; tick 20", 57},
		{"drain=1000000000", "tick 7; borrow; dialed 1 1; drain", top},
		{"", "tick 7; borrow; dialed 1 1; drain; shut", -1},
		{"", "tick 7; borrow; dialed 1 1; drain; tick 50", -1},
		{"", "tick 7; drain", -1},
		// After failed dials.
		{"", "tick 4; borrow; dialed 1 0", 6},
		{"", "borrow 1; dialed 1 0", 1},
		{"wait=2", "borrow; dialed 1 0", 2},
		{"wait=3", "borrow; dialed 1 0", 2},
		{"", "borrow; dialed 1 0; cancel 1", -1},
		{"min=1", "borrow; dialed 1 0; cancel 1", 2},
		{"min=1", "tick 0; dialed 1 0; tick 2", -1},
		{"min=2", "tick 0; dialed 1 0; dialed 2 1", -1},
		{"min=2 keep=9", "tick 0; dialed 1 0; tick 1; dialed 2 0", 5},
		{"min=2 keep=1", "tick 0; dialed 2 1; dialed 1 0", 1},
		{"max=1 trips=1", "borrow; dialed 1 0", 2},
		{"max=1 trips=1", "borrow; dialed 1 0; tick 9", 2}, // the breaker is still open
		{"max=1", "borrow; rest; dialed 1 0; tick 9", 2},
		{"max=2 min=2", "tick 0; dialed 1 0; shut", 2}, // by the formula, which does not ask for the mode
	}
	for _, row := range rows {
		if p := story(t, row.fields, row.ops); impl.PoolNext(p) != row.next {
			t.Errorf("%q, %q: PoolNext = %d, want %d", row.fields, row.ops, impl.PoolNext(p), row.next)
		}
	}
}
