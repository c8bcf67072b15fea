package tests

import (
	"cmp"
	"fmt"
	"maps"
	"math"
	"slices"
	"testing"

	"loop.example/g00722/impl"
)

// The Kinds of an operation, by the names of the document.
const (
	doTick = iota
	doBorrow
	doReturn
	doInvalidate
	doCancel
	doDialed
	doProbed
	doFault
	doRest
	doResume
	doResize
	doEvict
	doDrain
	doShut
	opKinds
)

// The Kinds of an event.
const (
	tellDial = iota
	tellOpen
	tellFail
	tellGrant
	tellBack
	tellClose
	tellProbe
	tellLate
	tellGone
	tellNo
	tellLeak
	tellMode
)

const maxPause = 1000000

// plainPool is what the pool must do, with the models of the earlier chapters
// as its parts. It notes what happens to each ticket as it happens.
type plainPool struct {
	c          impl.Config
	now, mode  int
	lastConn   int
	lastTicket int
	conns      map[int]*impl.Conn
	line       *plainLine
	breaker    *plainBreaker
	fails      int
	redialAt   int
	drainAt    int
	log        []impl.Event
	codes      []int
	filled     bool // whether the pool has ever been filled
}

func newPlainPool(c impl.Config) *plainPool {
	return &plainPool{c: c, conns: map[int]*impl.Conn{}, line: newPlainLine(), breaker: &plainBreaker{c: c}}
}

func (m *plainPool) tell(kind, ticket, conn int) {
	m.log = append(m.log, impl.Event{Kind: kind, Ticket: ticket, Conn: conn})
}

// list has the connections in one of the states, or all, in order of Id.
func (m *plainPool) list(states ...int) []*impl.Conn {
	list := slices.SortedFunc(maps.Values(m.conns), func(a, b *impl.Conn) int { return cmp.Compare(a.Id, b.Id) })
	return slices.DeleteFunc(list, func(c *impl.Conn) bool { return len(states) > 0 && !slices.Contains(states, c.State) })
}

func (m *plainPool) inState(id, state int) bool {
	return m.conns[id] != nil && m.conns[id].State == state
}

func (m *plainPool) wanted() int {
	demand := len(m.list(held)) + len(m.line.requests)
	if demand < m.c.Min {
		demand = m.c.Min
	}
	if demand > m.c.Max {
		demand = m.c.Max
	}
	return demand
}

func (m *plainPool) move(c *impl.Conn, state int) {
	c.State, c.Since, c.Ticket, c.Told = state, m.now, 0, false
}

func (m *plainPool) close(c *impl.Conn) {
	delete(m.conns, c.Id)
	m.tell(tellClose, c.Ticket, c.Id)
}

func (m *plainPool) closeList(list []*impl.Conn) {
	for _, c := range list {
		m.close(c)
	}
}

func (m *plainPool) change(mode int) {
	m.mode = mode
	m.tell(tellMode, 0, mode)
}

func (m *plainPool) serve() {
	if m.mode != impl.ModeRuns {
		return
	}
	for _, c := range m.list(resting) {
		ticket := m.line.serve()
		if ticket == 0 {
			return
		}
		m.move(c, held)
		c.Ticket = ticket
		m.tell(tellGrant, ticket, c.Id)
	}
}

func (m *plainPool) mayDial() bool {
	if m.breaker.state == impl.BreakHalf || m.breaker.state == impl.BreakOpen && m.now < m.breaker.until {
		return false
	}
	return m.now >= m.redialAt
}

func (m *plainPool) fill() {
	if m.mode != impl.ModeRuns {
		return
	}
	m.filled = true
	for len(m.conns) < m.wanted() && m.mayDial() {
		m.breaker.dial(m.now)
		m.lastConn++
		m.conns[m.lastConn] = &impl.Conn{Id: m.lastConn, Since: m.now}
		m.tell(tellDial, 0, m.lastConn)
	}
}

func (m *plainPool) serveAndFill() {
	m.serve()
	m.fill()
}

func (m *plainPool) settle() {
	if m.mode == impl.ModeDrains && len(m.conns) == 0 {
		m.change(impl.ModeShut)
	}
	m.serveAndFill()
}

func (m *plainPool) closeSurplus() {
	idle := m.list(resting)
	for len(m.conns) > m.c.Max && len(idle) > 0 {
		m.close(idle[len(idle)-1])
		idle = idle[:len(idle)-1]
	}
}

func (m *plainPool) tick(span int) {
	m.now = min(m.now+span, top)
	for _, ticket := range m.line.expire(m.now) {
		m.tell(tellLate, ticket, 0)
	}
	if m.mode == impl.ModeDrains && m.now >= m.drainAt {
		m.closeList(m.list())
		m.change(impl.ModeShut)
	}
	for _, c := range m.list() {
		switch plainDue(m.c, *c, m.now) {
		case impl.DueLife:
			m.close(c)
		case impl.DueIdle:
			if len(m.conns) > m.c.Min {
				m.close(c)
			}
		case impl.DueProbe:
			m.move(c, probing)
			m.tell(tellProbe, 0, c.Id)
		case impl.DueLeak:
			c.Told = true
			m.tell(tellLeak, c.Ticket, c.Id)
		}
	}
	m.closeSurplus()
	m.serveAndFill()
}

func (m *plainPool) borrow(wait int) {
	m.lastTicket++
	if wait == 0 {
		wait = m.c.Wait
	}
	blocked := len(m.list(resting)) == 0 && m.breaker.state == impl.BreakOpen && m.now < m.breaker.until
	ends := m.mode == impl.ModeDrains || m.mode == impl.ModeShut
	if ends || blocked || !m.line.enqueue(request{m.lastTicket, min(m.now+wait, top)}) {
		m.tell(tellNo, m.lastTicket, 0)
	}
	m.serveAndFill()
}

func (m *plainPool) giveBack(c *impl.Conn) {
	m.tell(tellBack, c.Ticket, c.Id)
	m.move(c, resting)
	old := m.c.Life > 0 && min(c.Born+m.c.Life, top) <= m.now
	if m.mode == impl.ModeDrains || old || len(m.conns) > m.c.Max {
		m.close(c)
	}
	m.settle()
}

func (m *plainPool) failed(c *impl.Conn, draw int) {
	delete(m.conns, c.Id)
	m.fails++
	m.redialAt = m.now + plainWait(m.c, m.fails, draw)
	m.breaker.fail(m.now)
	m.tell(tellFail, 0, c.Id)
	m.settle()
}

func (m *plainPool) opened(c *impl.Conn) {
	m.move(c, resting)
	c.Born = m.now
	m.fails, m.redialAt = 0, 0
	m.breaker.succeed()
	m.tell(tellOpen, 0, c.Id)
	m.settle()
}

func (m *plainPool) probed(c *impl.Conn, answer int) {
	if answer == 1 && m.mode != impl.ModeDrains {
		m.move(c, resting)
	} else {
		m.close(c)
	}
	m.settle()
}

func (m *plainPool) end(mode int, states ...int) {
	m.change(mode)
	for _, ticket := range m.line.tickets() {
		m.line.leave(ticket)
		m.tell(tellNo, ticket, 0)
	}
	m.closeList(m.list(states...))
}

// refuses follows the last column of the document's table.
func (m *plainPool) refuses(o impl.Op) bool {
	switch o.Kind {
	case doTick, doBorrow:
		return o.A < 0 || o.A > maxPause
	case doReturn, doInvalidate:
		return !m.inState(o.A, held) || m.conns[o.A].Ticket != o.B
	case doCancel:
		return m.line.indexOf(o.A) < 0
	case doDialed:
		return !m.inState(o.A, dialing) || o.B != 0 && o.B != 1
	case doProbed:
		return !m.inState(o.A, probing) || o.B != 0 && o.B != 1
	case doFault:
		return m.conns[o.A] == nil
	case doRest:
		return m.mode != impl.ModeRuns
	case doResume:
		return m.mode != impl.ModeRests
	case doResize:
		return o.B < 1 || o.B > impl.MaxConns || o.A < 0 || o.A > o.B
	case doEvict:
		return false
	case doDrain:
		return m.mode == impl.ModeDrains || m.mode == impl.ModeShut
	case doShut:
		return m.mode == impl.ModeShut
	}
	return true
}

func (m *plainPool) apply(o impl.Op) {
	if m.refuses(o) {
		m.codes = append(m.codes, impl.OpBad)
		return
	}
	m.codes = append(m.codes, impl.OpDone)
	if o.Kind >= doRest {
		m.govern(o)
		return
	}
	c := m.conns[o.A]
	switch o.Kind {
	case doTick:
		m.tick(o.A)
	case doBorrow:
		m.borrow(o.A)
	case doReturn:
		m.giveBack(c)
	case doCancel:
		m.line.leave(o.A)
		m.tell(tellGone, o.A, 0)
		m.serveAndFill()
	case doProbed:
		m.probed(c, o.B)
	default:
		m.lose(o, c)
	}
}

// lose applies the operations that may end a connection or its dial.
func (m *plainPool) lose(o impl.Op, c *impl.Conn) {
	switch {
	case o.Kind == doDialed && o.B == 1:
		m.opened(c)
	case c.State == dialing:
		m.failed(c, o.C)
	default:
		m.close(c)
		m.settle()
	}
}

func (m *plainPool) govern(o impl.Op) {
	switch o.Kind {
	case doRest:
		m.change(impl.ModeRests)
	case doResume:
		m.change(impl.ModeRuns)
		m.serveAndFill()
	case doResize:
		m.c.Min, m.c.Max = o.A, o.B
		m.closeSurplus()
		m.serveAndFill()
	case doEvict:
		m.closeList(m.list(resting))
		m.fill()
	case doDrain:
		m.drainAt = min(m.now+m.c.Drain, top)
		m.end(impl.ModeDrains, resting, dialing, probing)
		m.settle()
	case doShut:
		m.end(impl.ModeShut)
	}
}

func (m *plainPool) pool() impl.Pool {
	p := impl.Pool{
		Config: m.c, Now: m.now, Mode: m.mode, NextConn: m.lastConn + 1, NextTicket: m.lastTicket + 1,
		Line: m.line.line(), Breaker: m.breaker.breaker(), Fails: m.fails, RedialAt: m.redialAt, DrainAt: m.drainAt,
	}
	for _, c := range m.list() {
		p.Conns = append(p.Conns, *c)
	}
	return p
}

// next collects what the document names and takes the least.
func (m *plainPool) next() int {
	least := math.MaxInt
	if first := m.line.next(); first >= 0 {
		least = first
	}
	for _, c := range m.conns {
		for _, at := range []int{c.Born + m.c.Life, c.Since + m.c.Idle, c.Since + m.c.Keep, c.Since + m.c.Leak} {
			if at = min(at, top); plainDue(m.c, *c, at) != impl.DueNothing {
				least = min(least, at)
			}
		}
	}
	if m.mode == impl.ModeDrains {
		least = min(least, m.drainAt)
	}
	if m.fails > 0 && len(m.conns) < m.wanted() {
		least = min(least, m.redialAt)
	}
	if least == math.MaxInt {
		return -1
	}
	return least
}

func equalPools(a, b impl.Pool) bool {
	return a.Config == b.Config && a.Now == b.Now && a.Mode == b.Mode && a.NextConn == b.NextConn && a.NextTicket == b.NextTicket &&
		slices.Equal(a.Conns, b.Conns) && equalLines(a.Line, b.Line) && sameBreaker(a.Breaker, b.Breaker) &&
		a.Fails == b.Fails && a.RedialAt == b.RedialAt && a.DrainAt == b.DrainAt
}

func copyOfPool(p impl.Pool) impl.Pool {
	p.Conns, p.Line, p.Breaker = slices.Clone(p.Conns), copyOfLine(p.Line), copyOfBreaker(p.Breaker)
	return p
}

// poolText leaves out the slots of the Queue.
func poolText(p impl.Pool) string {
	line, items := impl.LineList(p.Line), p.Line.Heap.Items
	p.Line = impl.Line{}
	return fmt.Sprintf("%+v waiting %v until %v", p, line, items)
}

// checkReaders compares the functions that read a pool with the model.
func (m *plainPool) checkReaders(t *testing.T, p impl.Pool) {
	t.Helper()
	if !impl.PoolSafe(p) {
		t.Errorf("not safe: %s", poolText(p))
	}
	for state := dialing; state <= closed; state++ {
		want := len(m.list(state))
		if got := impl.CountState(p, state); got != want {
			t.Errorf("CountState(%d) = %d, want %d, of %+v", state, got, want, p.Conns)
		}
	}
	if got := impl.Wanted(p); got != m.wanted() {
		t.Errorf("Wanted = %d, want %d, of %s", got, m.wanted(), poolText(p))
	}
	if got := impl.PoolNext(p); got != m.next() {
		t.Errorf("PoolNext = %d, want %d, of %s", got, m.next(), poolText(p))
	}
}
