package tests

import (
	"math"
	"reflect"
	"slices"
	"testing"

	"loop.example/g00722/impl"
)

// richPool has a connection in each state, waiting tickets and failures: 1 is
// held by 1, 2 is idle, 3 is being dialed, 4 is being probed, and 2 and 3 wait.
func richPool(t *testing.T) impl.Pool {
	t.Helper()
	c := poolConfig(t, "min=5 max=5 keep=10 life=500 leak=90")
	p, _, _ := played(t, c, opsOf(t, "tick 0; dialed 1 1; borrow; dialed 4 1; tick 10; dialed 2 1; dialed 5 0; rest; borrow; borrow 5"))
	return p
}

type brokenPool struct {
	what string
	p    impl.Pool
}

func changedPool(t *testing.T, edit func(*impl.Pool)) impl.Pool {
	t.Helper()
	p := copyOfPool(richPool(t))
	edit(&p)
	return p
}

// manyIdle are n connections with the Ids 1 to n.
func manyIdle(n int) []impl.Conn {
	conns := make([]impl.Conn, n)
	for k := range conns {
		conns[k] = impl.Conn{Id: k + 1, State: resting}
	}
	return conns
}

// poolsOfBrokenConns break the conditions on the connections.
func poolsOfBrokenConns(t *testing.T) []brokenPool {
	t.Helper()
	var list []brokenPool
	add := func(what string, edit func(*impl.Pool)) {
		list = append(list, brokenPool{what, changedPool(t, edit)})
	}
	add("13 connections", func(p *impl.Pool) { p.Conns, p.NextConn = manyIdle(impl.MaxConns+1), 20 })
	add("very many connections", func(p *impl.Pool) { p.Conns, p.NextConn = manyIdle(1000), 2000 })
	for _, c := range brokenConns() {
		add("an invalid connection", func(p *impl.Pool) { p.Conns, p.NextConn = []impl.Conn{c}, top+1 })
	}
	for k := range 4 {
		add("one is invalid", func(p *impl.Pool) { p.Conns[k].Born = p.Conns[k].Since + 1 })
		add("one is closed", func(p *impl.Pool) {
			p.Conns[k].State, p.Conns[k].Ticket = closed, 0
		})
	}
	add("the first Id is 0", func(p *impl.Pool) { p.Conns[0].Id = 0 })
	add("an Id occurs twice", func(p *impl.Pool) { p.Conns[2].Id = 2 })
	add("the last Id occurs twice", func(p *impl.Pool) { p.Conns[3].Id = 3 })
	add("the first two are exchanged", func(p *impl.Pool) { p.Conns[0], p.Conns[1] = p.Conns[1], p.Conns[0] })
	add("the last two are exchanged", func(p *impl.Pool) { p.Conns[2], p.Conns[3] = p.Conns[3], p.Conns[2] })
	add("the last Id is NextConn", func(p *impl.Pool) { p.NextConn = 4 })
	add("the last Id is above NextConn", func(p *impl.Pool) { p.NextConn = 1 })
	add("NextConn is 0", func(p *impl.Pool) { p.NextConn = 0 })
	add("the Id of an only connection is NextConn", func(p *impl.Pool) { p.Conns, p.NextConn = p.Conns[:1], 1 })
	return list
}

// poolsOfBrokenTickets break the conditions on holders and waiting tickets.
func poolsOfBrokenTickets(t *testing.T) []brokenPool {
	t.Helper()
	var list []brokenPool
	add := func(what string, edit func(*impl.Pool)) {
		list = append(list, brokenPool{what, changedPool(t, edit)})
	}
	hold := func(p *impl.Pool, k, ticket int) { p.Conns[k].State, p.Conns[k].Ticket = held, ticket }
	add("two have one holder", func(p *impl.Pool) { hold(p, 1, 1) })
	add("the first and the last have one holder", func(p *impl.Pool) { hold(p, 3, 1) })
	add("the last two have one holder", func(p *impl.Pool) { hold(p, 1, 7); hold(p, 3, 7) })
	add("all have one holder", func(p *impl.Pool) { hold(p, 1, 1); hold(p, 2, 1); hold(p, 3, 1) })
	add("the first of the line holds", func(p *impl.Pool) { hold(p, 0, 2) })
	add("the last of the line holds", func(p *impl.Pool) { hold(p, 0, 3) })
	add("one of the line holds the last connection", func(p *impl.Pool) { hold(p, 3, 2) })
	add("the last of the line is NextTicket", func(p *impl.Pool) { p.NextTicket = 3 })
	add("the first of the line is NextTicket", func(p *impl.Pool) { p.NextTicket = 2 })
	add("the line is above NextTicket", func(p *impl.Pool) { p.NextTicket = 0 })
	add("the first of the line is above NextTicket", func(p *impl.Pool) {
		p.Line, _ = impl.Leave(p.Line, 2)
		p.Line, _ = impl.Enqueue(p.Line, 5, 50)
		p.NextTicket = 4
	})
	return list
}

// poolsOfBrokenParts have an invalid part.
func poolsOfBrokenParts(t *testing.T) []brokenPool {
	t.Helper()
	var list []brokenPool
	rich := richPool(t)
	for _, b := range brokenBreakers() {
		p := copyOfPool(rich)
		p.Breaker = b
		list = append(list, brokenPool{"Breaker", p})
	}
	for _, c := range brokenConfigs() {
		p := copyOfPool(rich)
		p.Config = c
		list = append(list, brokenPool{"Config", p})
	}
	for _, l := range brokenLines(t) {
		p := copyOfPool(rich)
		// No ticket of these lines is too great, and nobody holds a connection.
		p.Line, p.NextTicket = l.l, top
		p.Conns[0].State, p.Conns[0].Ticket = resting, 0
		list = append(list, brokenPool{"Line: " + l.what, p})
	}
	return append(list, brokenPool{"the zero value", impl.Pool{}})
}

func brokenPools(t *testing.T) []brokenPool {
	t.Helper()
	return slices.Concat(poolsOfBrokenConns(t), poolsOfBrokenTickets(t), poolsOfBrokenParts(t))
}

func TestPoolsThatAreNotSafe(t *testing.T) {
	for _, c := range brokenPools(t) {
		before := copyOfPool(c.p)
		if impl.PoolSafe(c.p) {
			t.Errorf("%s: PoolSafe is true: %s", c.what, poolText(c.p))
		}
		if !equalPools(c.p, before) {
			t.Errorf("%s: the argument changed", c.what)
		}
	}
}

// TestPoolsThatAreSafe: what PoolSafe does not ask for, and limits that are met exactly.
func TestPoolsThatAreSafe(t *testing.T) {
	edits := []func(*impl.Pool){
		func(p *impl.Pool) {},
		func(p *impl.Pool) { p.NextConn = 5 },
		func(p *impl.Pool) { p.NextConn = math.MaxInt },
		func(p *impl.Pool) { p.NextTicket = math.MaxInt },
		func(p *impl.Pool) { p.Conns, p.NextConn = manyIdle(impl.MaxConns), impl.MaxConns+1 },
		func(p *impl.Pool) { p.Conns[3].Id, p.NextConn = top, top+1 },
		func(p *impl.Pool) { p.Conns, p.NextConn = nil, 0 },
		func(p *impl.Pool) { p.Conns, p.Line, p.NextTicket = []impl.Conn{}, impl.NewLine(), 0 },
		func(p *impl.Pool) { p.Conns[0].Ticket = top }, // a holder need not be below NextTicket
		func(p *impl.Pool) { p.Conns[1].State, p.Conns[1].Ticket = held, 4 },
		func(p *impl.Pool) { p.Config.Min, p.Config.Max = 0, 1 }, // after a resize there may be more
		func(p *impl.Pool) { p.Now, p.Mode, p.Fails, p.RedialAt, p.DrainAt = -1, 9, -1, -1, top+1 },
		func(p *impl.Pool) { p.Conns[0].Since, p.Conns[1].Since = top, top },
	}
	for k, edit := range edits {
		p := changedPool(t, edit)
		if !impl.PoolSafe(p) {
			t.Errorf("%d: not safe: %s", k, poolText(p))
		}
	}
}

func TestCountState(t *testing.T) {
	p := richPool(t)
	for state, want := range []int{1, 1, 1, 1, 0} {
		if got := impl.CountState(p, state); got != want {
			t.Errorf("CountState(%d) = %d, want %d", state, got, want)
		}
	}
	for _, state := range farNumbers() {
		if got := impl.CountState(p, state); got != 0 {
			t.Errorf("CountState(%d) = %d", state, got)
		}
	}
	// It counts also in pools that are not safe.
	odd := impl.Pool{Conns: []impl.Conn{{State: 9}, {State: closed}, {State: 9}, {State: -1}, {State: held}, {State: held}, {State: held}}}
	for _, row := range [][2]int{{9, 2}, {closed, 1}, {-1, 1}, {held, 3}, {dialing, 0}, {8, 0}} {
		if got := impl.CountState(odd, row[0]); got != row[1] {
			t.Errorf("CountState(%d) = %d, want %d", row[0], got, row[1])
		}
	}
	if got := impl.CountState(impl.Pool{Conns: manyIdle(1000)}, resting); got != 1000 {
		t.Errorf("CountState of many = %d", got)
	}
}

func TestWanted(t *testing.T) {
	rows := []struct{ least, most, held, waiting, want int }{
		{0, 1, 0, 0, 0}, {0, 1, 1, 0, 1}, {0, 1, 0, 1, 1}, {0, 1, 1, 1, 1}, {0, 12, 3, 4, 7}, {0, 12, 6, 6, 12}, {0, 12, 6, 7, 12}, {0, 12, 12, 60, 12},
		{2, 5, 0, 0, 2}, {2, 5, 1, 1, 2}, {2, 5, 1, 2, 3}, {2, 5, 0, 5, 5}, {2, 5, 0, 6, 5}, {2, 5, 5, 0, 5}, {5, 5, 0, 0, 5}, {5, 5, 9, 9, 5}, {12, 12, 0, 0, 12},
		// Sizes that are not valid: the larger of Min and the demand, but at most Max.
		{5, 2, 0, 0, 2}, {5, 2, 9, 9, 2}, {-3, 4, 0, 0, 0}, {-3, -2, 1, 1, -2}, {3, -1, 0, 0, -1}, {40, 50, 3, 3, 40}, {0, 100, 20, 60, 80},
		{math.MinInt, math.MaxInt, 2, 3, 5}, {math.MaxInt, math.MaxInt, 2, 3, math.MaxInt}, {math.MinInt, math.MinInt, 2, 3, math.MinInt},
	}
	for _, row := range rows {
		p := impl.Pool{Line: impl.NewLine()}
		p.Config.Min, p.Config.Max = row.least, row.most
		for k := range row.held {
			p.Conns = append(p.Conns, impl.Conn{Id: k + 1, State: held, Ticket: k + 100}, impl.Conn{State: resting}, impl.Conn{}, impl.Conn{State: probing})
		}
		for k := range row.waiting {
			p.Line, _ = impl.Enqueue(p.Line, k+1, 9)
		}
		if got := impl.Wanted(p); got != row.want {
			t.Errorf("Wanted = %d, want %d: %+v", got, row.want, row)
		}
	}
	if got := impl.Wanted(richPool(t)); got != 5 {
		t.Errorf("Wanted = %d", got)
	}
	if got := impl.Wanted(changedPool(t, func(p *impl.Pool) { p.Config.Min = 1 })); got != 3 {
		t.Errorf("Wanted with Min 1 = %d", got)
	}
	// Nobody waits in a line that is not valid.
	if got := impl.Wanted(changedPool(t, func(p *impl.Pool) { p.Config.Min, p.Line.Queue.Count = 0, 3 })); got != 1 {
		t.Errorf("Wanted with an invalid line = %d", got)
	}
}

// TestPoolNextOfAnyPool has pools that no play leads to. What is not valid has
// no deadline, and what is no tick is none.
func TestPoolNextOfAnyPool(t *testing.T) {
	line := lineOf(t, request{4, 700}, request{5, 600})
	idle := impl.Conn{Id: 1, State: resting, Born: 100, Since: 110}
	c := impl.DefaultConfig() // Life 1000, Idle 100, Keep 40, Leak 200
	off := dueConfig(0, 0, 0, 0)
	rows := []struct {
		what string
		p    impl.Pool
		next int
	}{
		{"the zero value", impl.Pool{}, -1},
		{"a line", impl.Pool{Config: off, Line: line}, 600},
		{"a line without a configuration", impl.Pool{Line: line}, 600},
		{"a line and a connection", impl.Pool{Config: c, Line: line, Conns: []impl.Conn{idle}}, 150},
		{"a connection without a configuration", impl.Pool{Line: line, Conns: []impl.Conn{idle}}, 600},
		{"a connection without a line", impl.Pool{Config: c, Conns: []impl.Conn{idle}}, 150},
		{"a connection that is not valid", impl.Pool{Config: c, Line: line, Conns: []impl.Conn{{State: resting, Born: 100, Since: 110}}}, 600},
		{"the second of two", impl.Pool{Config: c, Conns: []impl.Conn{{Id: 2, State: resting, Born: 300, Since: 310}, idle}}, 150},
		{"the last of many", impl.Pool{Config: c, Conns: append(slices.Repeat([]impl.Conn{{Id: 2, State: resting, Born: 300, Since: 310}}, 1000), idle)}, 150},
		{"a tick that has passed", impl.Pool{Config: c, Now: 5000, Conns: []impl.Conn{idle}}, 150},
		{"DrainAt", impl.Pool{Config: c, Mode: impl.ModeDrains, DrainAt: 70, Line: line}, 70},
		{"a late DrainAt", impl.Pool{Config: c, Mode: impl.ModeDrains, DrainAt: 601, Line: line}, 600},
		{"DrainAt 0", impl.Pool{Config: c, Mode: impl.ModeDrains, Line: line}, 0},
		{"DrainAt in another mode", impl.Pool{Config: c, Mode: impl.ModeShut, DrainAt: 70, Line: line}, 600},
		{"DrainAt in no mode", impl.Pool{Config: c, Mode: 4, DrainAt: 70}, -1},
		{"a DrainAt that is no tick", impl.Pool{Config: c, Mode: impl.ModeDrains, DrainAt: -5, Line: line}, 600},
		{"a DrainAt beyond all ticks", impl.Pool{Config: c, Mode: impl.ModeDrains, DrainAt: top + 1}, -1},
		{"RedialAt", impl.Pool{Config: c, Fails: 1, RedialAt: 70}, 70},
		{"a late RedialAt", impl.Pool{Config: c, Fails: 9, RedialAt: 601, Line: line}, 600},
		{"RedialAt with enough connections", impl.Pool{Config: c, Fails: 1, RedialAt: 70, Conns: []impl.Conn{idle}}, 150},
		{"RedialAt with too few connections", impl.Pool{Config: c, Fails: 1, RedialAt: 70, Conns: []impl.Conn{idle}, Line: line}, 70},
		{"RedialAt without failures", impl.Pool{Config: c, RedialAt: 70}, -1},
		{"RedialAt with less than none", impl.Pool{Config: c, Fails: -1, RedialAt: 70}, -1},
		{"RedialAt 0", impl.Pool{Config: c, Fails: 1}, 0},
		{"a RedialAt that is no tick", impl.Pool{Config: c, Fails: 1, RedialAt: -1, Line: line}, 600},
		{"a RedialAt beyond all ticks", impl.Pool{Config: c, Fails: 1, RedialAt: math.MaxInt}, -1},
		{"RedialAt where none are wanted", impl.Pool{Fails: 1, RedialAt: 70}, -1},
		{"RedialAt while resting", impl.Pool{Config: c, Mode: impl.ModeRests, Fails: 1, RedialAt: 70}, 70},
	}
	for _, row := range rows {
		before := copyOfPool(row.p)
		if got := impl.PoolNext(row.p); got != row.next {
			t.Errorf("%s: PoolNext = %d, want %d", row.what, got, row.next)
		}
		if !equalPools(row.p, before) {
			t.Errorf("%s: the argument changed", row.what)
		}
	}
}

// checkReadersOf expects the same answers again, and that the pool stays as it is.
func checkReadersOf(t *testing.T, p impl.Pool) {
	t.Helper()
	answers := func() []int {
		return []int{impl.CountState(p, held), impl.CountState(p, resting), impl.Wanted(p), impl.PoolNext(p), truth(impl.PoolSafe(p))}
	}
	before := copyOfPool(p)
	first := answers()
	impl.PlayPool(impl.DefaultConfig(), []impl.Op{{A: 5}, {Kind: doBorrow}})
	if second := answers(); !slices.Equal(first, second) || !equalPools(p, before) {
		t.Errorf("%v and then %v of %s", first, second, poolText(p))
	}
}

func TestReadersKeepThePool(t *testing.T) {
	checkReadersOf(t, richPool(t))
	for _, c := range brokenPools(t) {
		checkReadersOf(t, c.p)
	}
}

// spoilPool overwrites all the memory of a pool.
func spoilPool(p impl.Pool) {
	for k := range p.Conns[:cap(p.Conns)] {
		p.Conns[:cap(p.Conns)][k] = impl.Conn{Id: -5, State: -5}
	}
	spoil(p.Line, p.Breaker.Fails)
}

func spoilEvents(log []impl.Event) {
	for k := range log[:cap(log)] {
		log[:cap(log)][k] = impl.Event{Kind: -5}
	}
}

func spoilCodes(codes []int) {
	for k := range codes[:cap(codes)] {
		codes[:cap(codes)][k] = -5
	}
}

// TestPoolPlaysShareNoMemory spoils each result, and then the argument, and
// expects that the other results and a second play stay as they are.
func TestPoolPlaysShareNoMemory(t *testing.T) {
	c := poolConfig(t, "min=5 max=5 keep=10 life=500 leak=90")
	for _, text := range []string{
		"", "tick 1", "borrow", stageRuns, stageWaits, stageRests, stageDrains, stageShut, "tick 0; dialed 1 0; dialed 2 0; tick -1",
		"tick 0; dialed 1 1; borrow; dialed 4 1; tick 10; dialed 2 1; dialed 5 0; rest; borrow; borrow 5",
	} {
		ops := append(make([]impl.Op, 0, 40), opsOf(t, text)...)
		for k := len(ops); k < cap(ops); k++ {
			ops[:cap(ops)][k] = impl.Op{Kind: 77}
		}
		whole := slices.Clone(ops[:cap(ops)])
		wantPool, wantLog, wantCodes := played(t, c, slices.Clone(ops))
		for spoiled := range 4 {
			p, log, codes := played(t, c, ops)
			q, again, told := played(t, c, ops)
			switch spoiled {
			case 0:
				spoilPool(p)
				p = q
			case 1:
				spoilEvents(log)
				log = again
			case 2:
				spoilCodes(codes)
				codes = told
			case 3:
				copy(ops[:cap(ops)], make([]impl.Op, 40))
			}
			same := equalPools(p, wantPool) && slices.Equal(log, wantLog) && slices.Equal(codes, wantCodes)
			sameAgain := equalPools(q, wantPool) && slices.Equal(again, wantLog) && slices.Equal(told, wantCodes)
			if !same || !sameAgain {
				t.Errorf("%q: a change of result %d changes something else", text, spoiled)
			}
			if spoiled < 3 && !slices.Equal(ops[:cap(ops)], whole) {
				t.Errorf("%q: the operations are now %v", text, ops[:cap(ops)])
			}
		}
	}
}

func TestNewPoolsShareNoMemory(t *testing.T) {
	c := impl.DefaultConfig()
	first, _ := impl.PoolNew(c)
	second, _ := impl.PoolNew(c)
	want := copyOfPool(second)
	spoilPool(first)
	third, _ := impl.PoolNew(c)
	if !equalPools(second, want) || !equalPools(third, want) {
		t.Errorf("other pools are now %s and %s", poolText(second), poolText(third))
	}
}

// TestPlaysDoNotMeet plays the same operations again after other calls, and at
// the same time as others.
func TestPlaysDoNotMeet(t *testing.T) {
	configs := playConfigs(t)
	type result struct {
		p     impl.Pool
		log   []impl.Event
		codes []int
		ok    bool
	}
	playOf := func(k int) result {
		ops := drawnOps(drawer(k+500), configs[k%len(configs)], 90)
		p, log, codes, ok := impl.PlayPool(configs[k%len(configs)], ops)
		return result{p, log, codes, ok}
	}
	const plays = 14
	var first [plays]result
	for k := range plays {
		first[k] = playOf(k)
	}
	again := make(chan bool)
	for k := range plays {
		go func() { again <- reflect.DeepEqual(playOf(plays-1-k), first[plays-1-k]) }()
	}
	for range plays {
		if !<-again {
			t.Error("a play differs when it is played again")
		}
	}
}
