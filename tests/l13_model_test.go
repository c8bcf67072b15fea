package tests

import (
	"slices"
	"testing"

	"loop.example/g00722/impl"
)

// metrics has what chapter 13 says of one play.
type metrics struct {
	measure impl.Measure
	ok      bool
	waits   []int
	longest int
	still   int
	held    int
	busy    int
}

func metricsOf(c impl.Config, ops []impl.Op) metrics {
	var m metrics
	m.measure, m.ok = impl.MeasureOf(c, ops)
	m.waits, m.longest = impl.GrantWaits(c, ops), impl.LongestWait(c, ops)
	m.still, m.held, m.busy = impl.StillWaiting(c, ops), impl.HeldTime(c, ops), impl.PermilleBusy(c, ops)
	return m
}

func equalMetrics(a, b metrics) bool {
	return a.measure == b.measure && a.ok == b.ok && slices.Equal(a.waits, b.waits) &&
		a.longest == b.longest && a.still == b.still && a.held == b.held && a.busy == b.busy
}

// noMetrics is said of a play that fails.
func noMetrics() metrics { return metrics{longest: -1, still: -1, held: -1, busy: -1} }

// plainTimes is a play of the model with the tick after each operation. It is
// searched anew for every question.
type plainTimes struct {
	*plainPool
	c        impl.Config
	borrowed []int // by the ticket, less one
	at       []int // by the event
}

func timed(c impl.Config, ops []impl.Op) *plainTimes {
	p := &plainTimes{plainPool: newPlainPool(c), c: c}
	for _, o := range ops {
		p.apply(o)
		for len(p.borrowed) < p.lastTicket {
			p.borrowed = append(p.borrowed, p.now)
		}
		for len(p.at) < len(p.log) {
			p.at = append(p.at, p.now)
		}
	}
	return p
}

func (p *plainTimes) waits() []int {
	var waits []int
	for k, e := range p.log {
		if e.Kind == tellGrant {
			waits = append(waits, p.at[k]-p.borrowed[e.Ticket-1])
		}
	}
	return waits
}

func (p *plainTimes) still() int {
	n := 0
	for ticket := range p.lastTicket {
		n += truth(plainAnswerOf(p.log, ticket+1) < 0)
	}
	return n
}

// endOf is the tick at which the grant that is event k ends.
func (p *plainTimes) endOf(k int) int {
	for later := k + 1; later < len(p.log); later++ {
		if e := p.log[later]; e.Conn == p.log[k].Conn && (e.Kind == tellBack || e.Kind == tellClose) {
			return p.at[later]
		}
	}
	return p.now
}

func (p *plainTimes) heldTime() int {
	sum := 0
	for k, e := range p.log {
		if e.Kind == tellGrant {
			sum += p.endOf(k) - p.at[k]
		}
	}
	return sum
}

func (p *plainTimes) measure() impl.Measure {
	count := func(kind int) int { return countKinds(p.log, kind) }
	return impl.Measure{
		Borrowed: len(p.borrowed), Granted: count(tellGrant), TimedOut: count(tellLate), Cancelled: count(tellGone), Rejected: count(tellNo),
		Opened: count(tellOpen), Failed: count(tellFail), Closed: count(tellClose), Leaks: count(tellLeak), Most: plainMostLive(p.log),
	}
}

func plainMetrics(c impl.Config, ops []impl.Op) metrics {
	if !impl.ConfigOk(c) || len(ops) > 200 {
		return noMetrics()
	}
	p := timed(c, ops)
	m := metrics{measure: p.measure(), ok: true, waits: p.waits(), longest: -1, still: p.still(), held: p.heldTime()}
	for _, wait := range m.waits {
		m.longest = max(m.longest, wait)
	}
	if p.now > 0 {
		m.busy = m.held * 1000 / (p.now * p.c.Max)
	}
	return m
}

// plainSame is whether two scripts tell the same.
func plainSame(c impl.Config, a, b []impl.Op) bool {
	if !impl.ConfigOk(c) || len(a) > 200 || len(b) > 200 {
		return false
	}
	return slices.Equal(followed(c, a).log, followed(c, b).log)
}

func checkMetrics(t *testing.T, c impl.Config, ops []impl.Op) {
	t.Helper()
	if got, want := metricsOf(c, ops), plainMetrics(c, ops); !equalMetrics(got, want) {
		t.Errorf("%+v, %v: %+v, want %+v", c, ops, got, want)
	}
}

func checkSame(t *testing.T, c impl.Config, a, b []impl.Op, want bool) {
	t.Helper()
	if got, turned := impl.SameStory(c, a, b), impl.SameStory(c, b, a); got != want || turned != want {
		t.Errorf("%+v: SameStory of %v and %v = %v, of the second and the first %v, want %v", c, a, b, got, turned, want)
	}
}
