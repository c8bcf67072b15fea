package tests

import (
	"fmt"
	"slices"
	"testing"

	"loop.example/g00722/impl"
)

// ledger follows a log and notes the first thing that chapter 11 rules out.
type ledger struct {
	dialedLast int
	opened     map[int]bool
	ended      map[int]bool
	holder     map[int]int
	answered   map[int]bool
	granted    int
	ends       bool
}

// logFault returns the first event that no log may have, and why, or nothing.
func logFault(log []impl.Event) string {
	b := &ledger{opened: map[int]bool{}, ended: map[int]bool{}, holder: map[int]int{}, answered: map[int]bool{}}
	for k, e := range log {
		for _, check := range []func(impl.Event) string{b.form, b.fresh, b.hold, b.answer, b.drain} {
			if fault := check(e); fault != "" {
				return fmt.Sprintf("event %d, %s: %s", k, eventText(e), fault)
			}
		}
	}
	return ""
}

func (b *ledger) form(e impl.Event) string {
	usesConn := e.Kind <= tellProbe || e.Kind == tellLeak
	usesTicket := slices.Contains([]int{tellGrant, tellBack, tellLate, tellGone, tellNo, tellLeak}, e.Kind)
	switch {
	case e.Kind < tellDial || e.Kind > tellMode || e.Ticket < 0 || e.Ticket > top || e.Conn < 0 || e.Conn > top:
		return "a number is out of range"
	case usesConn != (e.Conn > 0) && e.Kind != tellMode || e.Kind == tellMode && e.Conn > impl.ModeShut:
		return "the Conn"
	case usesTicket != (e.Ticket > 0) && e.Kind != tellClose:
		return "the Ticket"
	}
	return ""
}

func (b *ledger) fresh(e impl.Event) string {
	if e.Conn == 0 || e.Kind == tellMode {
		return ""
	}
	known := e.Conn <= b.dialedLast
	switch {
	case e.Kind == tellDial && known:
		return "dialed again"
	case e.Kind != tellDial && (!known || b.ended[e.Conn]):
		return "does not exist"
	case (e.Kind == tellOpen || e.Kind == tellFail) && b.opened[e.Conn]:
		return "opened before"
	case (e.Kind == tellGrant || e.Kind == tellProbe) && !b.opened[e.Conn]:
		return "not open"
	}
	b.dialedLast = max(b.dialedLast, e.Conn)
	b.opened[e.Conn] = b.opened[e.Conn] || e.Kind == tellOpen
	b.ended[e.Conn] = e.Kind == tellFail || e.Kind == tellClose
	return ""
}

func (b *ledger) hold(e impl.Event) string {
	holder := b.holder[e.Conn]
	switch e.Kind {
	case tellGrant:
		if holder != 0 {
			return "held by another"
		}
		b.holder[e.Conn] = e.Ticket
	case tellBack, tellLeak, tellClose:
		if holder != e.Ticket {
			return "not the holder"
		}
		if e.Kind != tellLeak {
			b.holder[e.Conn] = 0
		}
	case tellProbe:
		if holder != 0 {
			return "probed while held"
		}
	}
	return ""
}

func (b *ledger) answer(e impl.Event) string {
	if !slices.Contains([]int{tellGrant, tellLate, tellGone, tellNo}, e.Kind) {
		return ""
	}
	if b.answered[e.Ticket] {
		return "answered before"
	}
	b.answered[e.Ticket] = true
	if e.Kind == tellGrant {
		if e.Ticket <= b.granted {
			return "out of order"
		}
		b.granted = e.Ticket
	}
	return ""
}

func (b *ledger) drain(e impl.Event) string {
	if b.ends && (slices.Contains([]int{tellDial, tellOpen, tellGrant, tellProbe, tellGone}, e.Kind) || e.Kind == tellMode && e.Conn < impl.ModeDrains) {
		return "after draining began"
	}
	b.ends = b.ends || e.Kind == tellMode && e.Conn >= impl.ModeDrains
	return ""
}

// TestLogFaults: what the ledger must find.
func TestLogFaults(t *testing.T) {
	good := []impl.Event{{Conn: 1}, {Kind: 1, Conn: 1}, {Kind: 3, Ticket: 1, Conn: 1}, {Kind: 10, Ticket: 1, Conn: 1}, {Kind: 7, Ticket: 2}, {Kind: 4, Ticket: 1, Conn: 1}, {Kind: 6, Conn: 1}, {Conn: 2}}
	if fault := logFault(good); fault != "" {
		t.Errorf("a good log: %s", fault)
	}
	for _, e := range []impl.Event{
		{Kind: 12}, {Kind: -1}, {Kind: 3, Conn: 1}, {Kind: 7, Ticket: 3, Conn: 1}, {Kind: 11, Conn: 4}, {Kind: 11, Ticket: 1, Conn: 1}, {Kind: 5},
		{Conn: 2}, {Conn: 1}, {Kind: 1, Conn: 3}, {Kind: 1, Conn: 1}, {Kind: 2, Conn: 1}, {Kind: 3, Ticket: 3, Conn: 2}, {Kind: 6, Conn: 2},
		{Kind: 4, Ticket: 1, Conn: 1}, {Kind: 10, Ticket: 1, Conn: 1}, {Kind: 5, Ticket: 1, Conn: 1}, {Kind: 3, Ticket: 1, Conn: 1}, {Kind: 3, Ticket: 2, Conn: 1}, {Kind: 9, Ticket: 2},
	} {
		if logFault(append(good[:len(good):len(good)], e)) == "" {
			t.Errorf("%v is not found", e)
		}
	}
	for _, e := range []impl.Event{{Conn: 3}, {Kind: 1, Conn: 2}, {Kind: 3, Ticket: 3, Conn: 1}, {Kind: 8, Ticket: 3}, {Kind: 11}, {Kind: 11, Conn: 1}} {
		if logFault(append(good[:len(good):len(good)], impl.Event{Kind: 11, Conn: 2}, e)) == "" {
			t.Errorf("%v is not found after draining began", e)
		}
	}
}

// followed is a play that was also followed by the model.
func followed(c impl.Config, ops []impl.Op) *plainPool {
	m := newPlainPool(c)
	for _, o := range ops {
		m.apply(o)
	}
	return m
}

// checkPlayedPool compares the whole play with the model, and the log with chapter 11.
func checkPlayedPool(t *testing.T, c impl.Config, ops []impl.Op) {
	t.Helper()
	m := followed(c, ops)
	p, log, codes := played(t, c, ops)
	if !slices.Equal(log, m.log) || !slices.Equal(codes, m.codes) || !equalPools(p, m.pool()) {
		t.Fatalf("%+v, %v: %s, %v, %s; the model has %s, %v, %s", c, ops, logText(log), codes, poolText(p), logText(m.log), m.codes, poolText(m.pool()))
	}
	if fault := logFault(log); fault != "" {
		t.Fatalf("%+v, %v: %s", c, ops, fault)
	}
	m.checkReaders(t, p)
}

func TestEveryShortPoolPlay(t *testing.T) {
	choice := opsOf(t, "tick 1; tick 10; borrow; borrow 1; return 1 1; invalid 1 1; cancel 2; dialed 1 1; dialed 1 0; dialed 2 1; "+
		"probed 1 1; fault 1; fault 2; rest; go; resize 0 1; resize 2 3; evict; drain; shut")
	const length = 3
	for _, stage := range []string{"", "borrow; borrow; dialed 1 1", "tick 0; dialed 1 1; rest; borrow; borrow; tick 10", "tick 0; dialed 1 1; tick 10; borrow; borrow 9"} {
		for _, fields := range []string{"min=1 max=2 keep=10 leak=9 trips=2", "min=0 max=2 life=11 idle=10 wait=10 trips=1 cool=1"} {
			t.Run(fields+"/"+stage, func(t *testing.T) {
				t.Parallel()
				c, start := poolConfig(t, fields), opsOf(t, stage)
				for code := range power(len(choice), length) {
					ops := slices.Clone(start)
					for range length {
						ops = append(ops, choice[code%len(choice)])
						code /= len(choice)
					}
					checkPlayedPool(t, c, ops)
				}
			})
		}
	}
}

// playConfigs have short deadlines, so that they meet.
func playConfigs(t *testing.T) []impl.Config {
	t.Helper()
	var list []impl.Config
	for _, fields := range []string{
		"", "min=2 max=4 wait=9 keep=7 leak=8 trips=3", "min=1 max=12 life=20 idle=6 keep=5 leak=3 drain=6 trips=20",
		"min=3 max=3 wait=12 life=15 jitter=50 trips=1 cool=4", "min=0 max=5 wait=4 idle=9 keep=9 base=1 cap=3 trips=2 window=5 cool=7 drain=3",
		"min=12 max=12 life=30 keep=3 wait=1000 jitter=100 drain=12", "min=1 max=1 wait=6 life=9 idle=4 leak=2 trips=4 drain=1",
	} {
		list = append(list, poolConfig(t, fields))
	}
	return list
}

// oneOf draws one of the list, or a number that is seldom in it.
func oneOf(draw func(int) int, list []int) int {
	if len(list) == 0 || draw(12) == 0 {
		return draw(9) - 1
	}
	return list[draw(len(list))]
}

// drawnOp mostly draws what the pool can accept. What ends the pool is rare.
func drawnOp(draw func(int) int, m *plainPool) impl.Op {
	idsOf := func(state int) []int {
		var ids []int
		for _, c := range m.list(state) {
			ids = append(ids, c.Id)
		}
		return ids
	}
	kinds := []int{0, 0, 0, 0, 0, 1, 1, 1, 1, 1, 1, 2, 2, 2, 2, 3, 4, 5, 5, 5, 5, 5, 5, 6, 6, 7, 8, 9, 9, 9, 10, 11}
	o := impl.Op{Kind: kinds[draw(len(kinds))], B: oneOf(draw, []int{0, 1, 1}), C: draw(3000) - 500}
	switch o.Kind {
	case doTick:
		o.A = oneOf(draw, []int{0, 1, 1, 2, 3, 5, 8, 20})
	case doBorrow:
		o.A = oneOf(draw, []int{0, 0, 1, 3, 6, 40})
	case doReturn, doInvalidate:
		o.A = oneOf(draw, idsOf(held))
		if c := m.conns[o.A]; c != nil && draw(12) > 0 {
			o.B = c.Ticket
		}
	case doCancel:
		o.A = oneOf(draw, m.line.tickets())
	case doDialed:
		o.A = oneOf(draw, idsOf(dialing))
	case doProbed:
		o.A = oneOf(draw, idsOf(probing))
	case doFault:
		o.A = oneOf(draw, append(idsOf(dialing), idsOf(draw(4))...))
	case doResize:
		o.A, o.B = draw(5), draw(6)
	}
	if draw(150) == 0 {
		o.Kind = []int{doDrain, doShut, -1, opKinds}[draw(4)]
	}
	return o
}

func drawnOps(draw func(int) int, c impl.Config, n int) []impl.Op {
	m := newPlainPool(c)
	ops := make([]impl.Op, n)
	for k := range ops {
		ops[k] = drawnOp(draw, m)
		m.apply(ops[k])
	}
	return ops
}

func TestDrawnPoolPlays(t *testing.T) {
	for k, c := range playConfigs(t) {
		t.Run(fmt.Sprint(k), func(t *testing.T) {
			t.Parallel()
			for seed := range 40 {
				draw := drawer(seed*31 + k)
				ops := drawnOps(draw, c, impl.MaxOps)
				checkPlayedPool(t, c, ops)
				checkPlayedPool(t, c, ops[:draw(impl.MaxOps)])
			}
		})
	}
}

// poolStep is an operation of a play with the pools before and after it.
type poolStep struct {
	op            impl.Op
	before, after impl.Pool
	events        []impl.Event
}

// stepsOf plays the operations one by one. Every log must begin with the one before.
func stepsOf(t *testing.T, c impl.Config, ops []impl.Op) []poolStep {
	t.Helper()
	before, log, _ := played(t, c, nil)
	var steps []poolStep
	for k, o := range ops {
		after, longer, _ := played(t, c, ops[:k+1])
		if len(longer) < len(log) || !slices.Equal(longer[:len(log)], log) {
			t.Fatalf("%v: the log %s becomes %s", ops[:k+1], logText(log), logText(longer))
		}
		steps = append(steps, poolStep{o, before, after, longer[len(log):]})
		before, log = after, longer
	}
	return steps
}

func (s poolStep) count(kind int) int {
	n := 0
	for _, e := range s.events {
		n += truth(e.Kind == kind)
	}
	return n
}

// checkExpiries: promise 12, a ticket is late at the first tick that reaches its deadline.
func checkExpiries(t *testing.T, steps []poolStep) {
	t.Helper()
	until := map[int]int{}
	for _, s := range steps {
		if s.after.NextTicket > s.before.NextTicket {
			wait := s.op.A
			if wait == 0 {
				wait = s.before.Config.Wait
			}
			until[s.before.NextTicket] = min(s.before.Now+wait, top)
		}
		for _, e := range s.events {
			at := until[e.Ticket]
			if e.Kind == tellLate && (s.op.Kind != doTick || at <= s.before.Now || at > s.after.Now) {
				t.Errorf("ticket %d, until %d, is late from %d to %d", e.Ticket, at, s.before.Now, s.after.Now)
			}
		}
		for _, ticket := range impl.LineList(s.after.Line) {
			if until[ticket] <= s.after.Now {
				t.Errorf("ticket %d, until %d, still waits at %d", ticket, until[ticket], s.after.Now)
			}
		}
	}
}

// checkDelays: promise 14, no dial before the delay of the last failure has
// passed, nor while the breaker is open, nor beside a trial.
func checkDelays(t *testing.T, steps []poolStep) {
	t.Helper()
	fails, from := 0, 0
	for _, s := range steps {
		for _, e := range s.events {
			switch e.Kind {
			case tellFail:
				fails++
				from = s.after.Now + impl.LeastWait(s.after.Config, fails)
			case tellOpen:
				fails, from = 0, 0
			}
		}
		dials, b := s.count(tellDial), s.after.Breaker
		if dials > 0 && (s.after.Now < from || s.after.Now < s.after.RedialAt) {
			t.Errorf("a dial at %d, before %d, %d", s.after.Now, from, s.after.RedialAt)
		}
		if dials > 0 && b.State == impl.BreakOpen && s.after.Now < b.Until {
			t.Errorf("a dial at %d while the breaker is open until %d", s.after.Now, b.Until)
		}
		trial := s.before.Breaker.State == impl.BreakHalf && b.State == impl.BreakHalf
		if b.State == impl.BreakHalf && dials != truth(!trial) {
			t.Errorf("%d dials, the breaker was %v and is %v", dials, s.before.Breaker, b)
		}
	}
}

// checkSizes: promise 11, a dial never makes more connections than Max.
func checkSizes(t *testing.T, steps []poolStep) {
	t.Helper()
	live := 0
	for _, s := range steps {
		for _, e := range s.events {
			switch e.Kind {
			case tellDial:
				if live++; live > s.after.Config.Max {
					t.Errorf("%d connections, Max is %d", live, s.after.Config.Max)
				}
			case tellFail, tellClose:
				live--
			}
		}
		if live != len(s.after.Conns) {
			t.Errorf("%d connections by the log, %d in the pool", live, len(s.after.Conns))
		}
	}
}

// checkAccounts: promise 16, every ticket is granted, late, gone, rejected or waits.
func checkAccounts(t *testing.T, steps []poolStep) {
	t.Helper()
	answers := 0
	for _, s := range steps {
		answers += s.count(tellGrant) + s.count(tellLate) + s.count(tellGone) + s.count(tellNo)
		if waiting := len(impl.LineList(s.after.Line)); answers+waiting != s.after.NextTicket-1 {
			t.Errorf("%d answers, %d waiting, of %d", answers, waiting, s.after.NextTicket-1)
		}
		if s.count(tellGrant) > 0 && s.after.Mode != impl.ModeRuns {
			t.Errorf("a grant in the mode %d", s.after.Mode)
		}
	}
}

// quietSpans has spans of ticks before PoolNext, in which nothing may happen.
// Three things are not in the formula of PoolNext: a new pool that has not
// dialed its Min, a trial that waits only for the breaker, and a surplus
// connection that became idle after the last tick.
func quietSpans(p impl.Pool) []int {
	short := p.Mode == impl.ModeRuns && len(p.Conns) < impl.Wanted(p)
	untold := short && p.Fails == 0 || len(p.Conns) > p.Config.Max && impl.CountState(p, resting) > 0
	next := impl.PoolNext(p)
	if next < 0 {
		next = p.Now + maxPause
	}
	if untold || next <= p.Now {
		return nil
	}
	most := next - p.Now - 1
	return []int{0, min(1, most), most / 2, most}
}

// checkQuiet: promise 16, a tick before PoolNext does nothing.
func checkQuiet(t *testing.T, c impl.Config, ops []impl.Op) {
	t.Helper()
	p, log, _ := played(t, c, ops)
	for _, span := range quietSpans(p) {
		later, told, _ := played(t, c, append(ops[:len(ops):len(ops)], impl.Op{A: span}))
		want := copyOfPool(p)
		want.Now += span
		if len(told) > len(log) || !equalPools(later, want) {
			t.Errorf("%v: after a tick of %d: %s, %s", ops, span, logText(told[len(log):]), poolText(later))
		}
	}
}

// checkDrained: promise 13, whatever happened before.
func checkDrained(t *testing.T, c impl.Config, ops []impl.Op) {
	t.Helper()
	end := append(ops[:len(ops):len(ops)], impl.Op{Kind: doDrain}, impl.Op{A: 1}, impl.Op{Kind: doBorrow}, impl.Op{A: c.Drain - 1})
	p, log, _ := played(t, c, end)
	if p.Mode != impl.ModeShut || len(p.Conns) > 0 || len(impl.LineList(p.Line)) > 0 {
		t.Errorf("%v: after draining: %s", ops, poolText(p))
	}
	q, told, codes := played(t, c, append(end, impl.Op{Kind: doBorrow}))
	want := []impl.Event{{Kind: tellNo, Ticket: p.NextTicket}}
	if !slices.Equal(told[len(log):], want) || codes[len(end)] != impl.OpDone || q.NextTicket != p.NextTicket+1 {
		t.Errorf("%v: borrowing after draining: %s", ops, logText(told[len(log):]))
	}
}

func TestPromisesInDrawnPlays(t *testing.T) {
	for k, c := range playConfigs(t) {
		t.Run(fmt.Sprint(k), func(t *testing.T) {
			t.Parallel()
			for seed := range 7 {
				draw := drawer(seed*977 + k)
				ops := drawnOps(draw, c, 70+draw(60))
				steps := stepsOf(t, c, ops)
				checkExpiries(t, steps)
				checkDelays(t, steps)
				checkSizes(t, steps)
				checkAccounts(t, steps)
				for range 15 {
					checkQuiet(t, c, ops[:1+draw(len(ops))])
					checkDrained(t, c, ops[:draw(len(ops)+1)])
				}
			}
		})
	}
}

// visit is one client's: it arrives, is served and keeps the connection for a while.
type visit struct{ arrival, hold int }

// goodDay lets every dial succeed after a while and every holder return. It
// returns the ticks at which the tickets were granted, in order.
func goodDay(t *testing.T, c impl.Config, visits []visit, dialTime int) []int {
	t.Helper()
	var ops []impl.Op
	var grants []int
	seen := 0
	do := func(o impl.Op) impl.Pool {
		ops = append(ops, o)
		p, log, codes := played(t, c, ops)
		if codes[len(ops)-1] != impl.OpDone {
			t.Fatalf("%v is refused", o)
		}
		for _, e := range log[seen:] {
			if e.Kind == tellGrant {
				if e.Ticket != len(grants)+1 {
					t.Fatalf("ticket %d is granted after %d others", e.Ticket, len(grants))
				}
				grants = append(grants, p.Now)
			}
		}
		seen = len(log)
		return p
	}
	for now := 0; len(grants) < len(visits); now++ {
		p := do(impl.Op{A: truth(now > 0)})
		for _, conn := range p.Conns {
			switch {
			case conn.State == dialing && now-conn.Since >= dialTime:
				do(impl.Op{Kind: doDialed, A: conn.Id, B: 1})
			case conn.State == probing:
				do(impl.Op{Kind: doProbed, A: conn.Id, B: 1})
			case conn.State == held && now-conn.Since >= visits[conn.Ticket-1].hold:
				do(impl.Op{Kind: doReturn, A: conn.Id, B: conn.Ticket})
			}
		}
		for _, v := range visits {
			if v.arrival == now {
				do(impl.Op{Kind: doBorrow})
			}
		}
	}
	return grants
}

// TestEverybodyIsServed: promise 12, if dials succeed and holders return. With
// one connection, the times are known.
func TestEverybodyIsServed(t *testing.T) {
	c := poolConfig(t, "max=1 wait=1000")
	if got := goodDay(t, c, []visit{{0, 5}, {0, 2}, {1, 3}, {20, 1}}, 3); !slices.Equal(got, []int{3, 8, 10, 20}) {
		t.Errorf("the grants are at %v", got)
	}
	c = poolConfig(t, "max=2 wait=1000 life=6")
	if got := goodDay(t, c, []visit{{0, 5}, {0, 7}, {1, 3}, {1, 1}}, 2); !slices.Equal(got, []int{2, 2, 7, 11}) {
		t.Errorf("with short lives, the grants are at %v", got)
	}
	for seed := range 12 {
		draw := drawer(seed * 13)
		c := poolConfig(t, fmt.Sprintf("min=%d max=%d wait=1000 keep=%d life=%d idle=9 leak=2", draw(2), 1+draw(3), 3+draw(9), 10+draw(10)))
		var visits []visit
		for now := 0; len(visits) < 12; now += draw(5) {
			visits = append(visits, visit{now, 1 + draw(6)})
		}
		goodDay(t, c, visits, 1+draw(4))
	}
}
