package tests

import (
	"math"
	"slices"
	"testing"

	"loop.example/g00722/impl"
)

// request is a ticket with its deadline.
type request struct{ ticket, until int }

func equalLines(a, b impl.Line) bool { return sameQueue(a.Queue, b.Queue) && sameHeap(a.Heap, b.Heap) }

func copyOfLine(l impl.Line) impl.Line {
	return impl.Line{Queue: copyOfQueue(l.Queue), Heap: copyOfHeap(l.Heap)}
}

// lineOf enqueues the requests in order.
func lineOf(t *testing.T, requests ...request) impl.Line {
	t.Helper()
	l := impl.NewLine()
	for _, r := range requests {
		var ok bool
		if l, ok = impl.Enqueue(l, r.ticket, r.until); !ok {
			t.Fatalf("Enqueue refuses %v", r)
		}
	}
	return l
}

// fullLine holds the tickets 1 to MaxQueue; several share a deadline.
func fullLine(t *testing.T) impl.Line {
	t.Helper()
	var requests []request
	for k := range impl.MaxQueue {
		requests = append(requests, request{k + 1, 100 + k*37%30})
	}
	return lineOf(t, requests...)
}

// checkLine expects a valid line with these tickets in order of arrival.
func checkLine(t *testing.T, what string, l impl.Line, next int, tickets ...int) {
	t.Helper()
	if !impl.LineOk(l) {
		t.Errorf("%s: the line is invalid: %v", what, l)
	}
	if got := impl.LineList(l); !slices.Equal(got, tickets) {
		t.Errorf("%s: the line lists %v, want %v", what, got, tickets)
	}
	if got := impl.NextExpiry(l); got != next {
		t.Errorf("%s: NextExpiry = %d, want %d", what, got, next)
	}
}

func checkEnqueueRefused(t *testing.T, l impl.Line, ticket, until int) {
	t.Helper()
	before := copyOfLine(l)
	if got, ok := impl.Enqueue(l, ticket, until); ok || !equalLines(got, before) || !equalLines(l, before) {
		t.Errorf("Enqueue(%d, %d) of %v = %v, %v", ticket, until, before, got, ok)
	}
}

func checkLeaveRefused(t *testing.T, l impl.Line, ticket int) {
	t.Helper()
	before := copyOfLine(l)
	if got, ok := impl.Leave(l, ticket); ok || !equalLines(got, before) || !equalLines(l, before) {
		t.Errorf("Leave(%d) of %v = %v, %v", ticket, before, got, ok)
	}
}

func checkNobodyServed(t *testing.T, l impl.Line) {
	t.Helper()
	before := copyOfLine(l)
	if got, ticket := impl.ServeFirst(l); ticket != 0 || !equalLines(got, before) || !equalLines(l, before) {
		t.Errorf("ServeFirst of %v = %v, %d", before, got, ticket)
	}
}

func checkNobodyExpires(t *testing.T, l impl.Line, now int) {
	t.Helper()
	before := copyOfLine(l)
	if got, tickets := impl.Expire(l, now); len(tickets) != 0 || !equalLines(got, before) || !equalLines(l, before) {
		t.Errorf("Expire(%d) of %v = %v, %v", now, before, got, tickets)
	}
}

// checkExpire expects these tickets and returns the line without them.
func checkExpire(t *testing.T, l impl.Line, now int, tickets ...int) impl.Line {
	t.Helper()
	next, got := impl.Expire(l, now)
	if !slices.Equal(got, tickets) {
		t.Errorf("Expire(%d) of %v removes %v, want %v", now, impl.LineList(l), got, tickets)
	}
	return next
}

func checkServe(t *testing.T, l impl.Line, ticket int) impl.Line {
	t.Helper()
	next, got := impl.ServeFirst(l)
	if got != ticket {
		t.Errorf("ServeFirst of %v serves %d, want %d", impl.LineList(l), got, ticket)
	}
	return next
}

func checkLeave(t *testing.T, l impl.Line, ticket int) impl.Line {
	t.Helper()
	next, ok := impl.Leave(l, ticket)
	if !ok {
		t.Errorf("%d cannot leave %v", ticket, impl.LineList(l))
	}
	return next
}

// anyTimes are ticks and other numbers.
func anyTimes() []int { return append(notTicks(), edgeTicks()...) }

func TestEmptyLines(t *testing.T) {
	l := impl.NewLine()
	if !sameQueue(l.Queue, impl.NewQueue()) || !sameHeap(l.Heap, impl.Heap{}) {
		t.Errorf("NewLine: %v", l)
	}
	one := lineOf(t, request{4, 7})
	emptied := []impl.Line{
		l, checkServe(t, one, 4), checkLeave(t, one, 4), checkExpire(t, one, 7, 4),
		{Queue: impl.NewQueue(), Heap: impl.Heap{Items: []impl.Due{}, Seq: top}},
	}
	for _, l := range emptied {
		checkLine(t, "empty", l, -1)
		checkNobodyServed(t, l)
		for _, ticket := range append(notIds(), 1, 4, top) {
			checkLeaveRefused(t, l, ticket)
		}
		for _, now := range anyTimes() {
			checkNobodyExpires(t, l, now)
		}
	}
}

func TestOneTicket(t *testing.T) {
	for _, ticket := range []int{1, 2, 500, top - 1, top} {
		for _, until := range edgeTicks() {
			l := lineOf(t, request{ticket, until})
			checkLine(t, "one", l, until, ticket)
			queue, _ := impl.PushBack(impl.NewQueue(), ticket)
			want := impl.Line{Queue: queue, Heap: impl.Heap{Items: []impl.Due{{At: until, Seq: 1, Id: ticket}}, Seq: 1}}
			if !equalLines(l, want) {
				t.Errorf("one ticket: got %v, want %v", l, want)
			}
			checkLine(t, "served", checkServe(t, l, ticket), -1)
			checkLine(t, "left", checkLeave(t, l, ticket), -1)
			for _, now := range anyTimes() {
				if now < until {
					checkNobodyExpires(t, l, now)
				} else {
					checkLine(t, "expired", checkExpire(t, l, now, ticket), -1)
				}
			}
		}
	}
}

func TestTicketsAndDeadlinesOutOfRange(t *testing.T) {
	for _, l := range []impl.Line{impl.NewLine(), lineOf(t, request{5, 20}, request{6, 10})} {
		for _, ticket := range notIds() {
			for _, until := range []int{-1, 0, 15, top, top + 1} {
				checkEnqueueRefused(t, l, ticket, until)
			}
		}
		for _, until := range notTicks() {
			// A ticket that the Queue alone would take is refused as well.
			for _, ticket := range []int{1, 5, 7, top} {
				checkEnqueueRefused(t, l, ticket, until)
			}
		}
	}
}

func TestFullLine(t *testing.T) {
	l := fullLine(t)
	checkLine(t, "full", l, 100, idsUpTo(impl.MaxQueue)...)
	for _, ticket := range []int{1, impl.MaxQueue, impl.MaxQueue + 1, top, 0} {
		for _, until := range []int{0, 50, 100, top} {
			checkEnqueueRefused(t, l, ticket, until)
		}
	}
	less := []impl.Line{checkServe(t, l, 1), checkLeave(t, l, 1), checkLeave(t, l, 30), checkLeave(t, l, impl.MaxQueue)}
	for _, l := range less {
		next, ok := impl.Enqueue(l, 700, 3)
		if !ok {
			t.Errorf("the free place in %v is refused", impl.LineList(l))
		}
		checkLine(t, "full again", next, 3, append(impl.LineList(l), 700)...)
		checkEnqueueRefused(t, next, 701, 3)
	}
	for k := range impl.MaxQueue {
		l = checkServe(t, l, k+1)
		if got := impl.LineList(l); !slices.Equal(got, idsUpTo(impl.MaxQueue)[k+1:]) {
			t.Fatalf("after %d: %v", k+1, got)
		}
	}
	checkLine(t, "all served", l, -1)
}

func TestAllOfAFullLineExpire(t *testing.T) {
	l := fullLine(t)
	checkNobodyExpires(t, l, 99)
	order := orderOf(l.Heap.Items)
	for _, now := range []int{129, 130, top, top + 1, math.MaxInt} {
		empty := checkExpire(t, l, now, order...)
		checkLine(t, "all expired", empty, -1)
		if got, place := impl.PushBack(empty.Queue, 5); place < 0 || len(impl.ListQueue(got)) != 1 {
			t.Errorf("the emptied queue: %v", got)
		}
	}
	checkLine(t, "all but the last deadline", checkExpire(t, l, 128, order[:impl.MaxQueue-2]...), 129, order[impl.MaxQueue-2:]...)
}

func TestTicketThatIsEnqueuedAgain(t *testing.T) {
	l := lineOf(t, request{7, 30}, request{3, 20}, request{9, 40})
	for _, ticket := range []int{7, 3, 9} {
		for _, until := range []int{0, 10, 20, 30, 40, 50, top, -1} {
			checkEnqueueRefused(t, l, ticket, until)
		}
		again, ok := impl.Enqueue(checkLeave(t, l, ticket), ticket, 35)
		others := slices.DeleteFunc([]int{7, 3, 9}, func(x int) bool { return x == ticket })
		if !ok {
			t.Errorf("%d cannot come back", ticket)
		}
		checkLine(t, "back", again, min(35, impl.DueOf(again.Heap, others[0]), impl.DueOf(again.Heap, others[1])), append(others, ticket)...)
	}
	// One that was served or has expired may come back, too.
	served, _ := impl.Enqueue(checkServe(t, l, 7), 7, 25)
	checkLine(t, "back after being served", served, 20, 3, 9, 7)
	expired, _ := impl.Enqueue(checkExpire(t, l, 20, 3), 3, 31)
	checkLine(t, "back after the deadline", expired, 30, 7, 9, 3)
}

func TestLeave(t *testing.T) {
	l := lineOf(t, request{7, 30}, request{3, 20}, request{9, 40}, request{5, 20})
	checkLine(t, "before", l, 20, 7, 3, 9, 5)
	checkLine(t, "without the first", checkLeave(t, l, 7), 20, 3, 9, 5)
	checkLine(t, "without the second", checkLeave(t, l, 3), 20, 7, 9, 5)
	checkLine(t, "without the third", checkLeave(t, l, 9), 20, 7, 3, 5)
	checkLine(t, "without the last", checkLeave(t, l, 5), 20, 7, 3, 9)
	checkLine(t, "without the earliest deadlines", checkLeave(t, checkLeave(t, l, 5), 3), 30, 7, 9)
	for _, ticket := range append(notIds(), 1, 2, 4, 20, 30, top) {
		checkLeaveRefused(t, l, ticket)
	}
	for _, ticket := range []int{7, 3, 9, 5} {
		checkLeaveRefused(t, checkLeave(t, l, ticket), ticket)
	}
}

// TestTheFirstHasExpired serves a ticket whose deadline may have passed, which
// ServeFirst cannot know, and lets the same ticket expire instead.
func TestTheFirstHasExpired(t *testing.T) {
	l := lineOf(t, request{1, 5}, request{2, 9}, request{3, 5})
	served := checkServe(t, l, 1)
	checkLine(t, "served", served, 5, 2, 3)
	checkLine(t, "the served one does not expire", checkExpire(t, served, 7, 3), 9, 2)
	expired := checkExpire(t, l, 5, 1, 3)
	checkLine(t, "expired", expired, 9, 2)
	checkLine(t, "the next one is first", checkServe(t, expired, 2), -1)
	checkLeaveRefused(t, expired, 1)
	// The tickets 1 and 2 have expired at 6 and the tick may be far behind.
	late := lineOf(t, request{1, 0}, request{2, 6}, request{3, top})
	checkLine(t, "a deadline of 0", checkServe(t, late, 1), 6, 2, 3)
	checkLine(t, "two deadlines", checkServe(t, checkServe(t, late, 1), 2), top, 3)
	checkLine(t, "only the first", checkExpire(t, late, 0, 1), 6, 2, 3)
	checkLine(t, "both", checkServe(t, checkExpire(t, late, 6, 1, 2), 3), -1)
	// Only the first expires, and only the first does not.
	checkLine(t, "the first of three", checkExpire(t, lineOf(t, request{8, 4}, request{6, 5}, request{7, 5}), 4, 8), 5, 6, 7)
	checkLine(t, "all but the first", checkExpire(t, lineOf(t, request{8, 5}, request{6, 4}, request{7, 4}), 4, 6, 7), 5, 8)
}

func TestExpireAtItsDeadline(t *testing.T) {
	l := lineOf(t, request{4, 10}, request{8, 7}, request{2, 10}, request{6, 12}, request{1, 0}, request{3, top})
	rows := []struct {
		now     int
		expired []int
		next    int
		left    []int
	}{
		{-1, nil, 0, []int{4, 8, 2, 6, 1, 3}},
		{0, []int{1}, 7, []int{4, 8, 2, 6, 3}},
		{1, []int{1}, 7, []int{4, 8, 2, 6, 3}},
		{6, []int{1}, 7, []int{4, 8, 2, 6, 3}},
		{7, []int{1, 8}, 10, []int{4, 2, 6, 3}},
		{9, []int{1, 8}, 10, []int{4, 2, 6, 3}},
		{10, []int{1, 8, 4, 2}, 12, []int{6, 3}},
		{11, []int{1, 8, 4, 2}, 12, []int{6, 3}},
		{12, []int{1, 8, 4, 2, 6}, top, []int{3}},
		{top - 1, []int{1, 8, 4, 2, 6}, top, []int{3}},
		{top, []int{1, 8, 4, 2, 6, 3}, -1, nil},
		{top + 1, []int{1, 8, 4, 2, 6, 3}, -1, nil},
		{math.MaxInt, []int{1, 8, 4, 2, 6, 3}, -1, nil},
		{math.MinInt, nil, 0, []int{4, 8, 2, 6, 1, 3}},
	}
	for _, row := range rows {
		checkLine(t, "before", l, 0, 4, 8, 2, 6, 1, 3)
		checkLine(t, "after", checkExpire(t, l, row.now, row.expired...), row.next, row.left...)
	}
}

func TestDescendingDeadlines(t *testing.T) {
	l := lineOf(t, request{1, 50}, request{2, 40}, request{3, 30}, request{4, 20}, request{5, 10})
	checkLine(t, "descending", l, 10, 1, 2, 3, 4, 5)
	checkLine(t, "all", checkExpire(t, l, 50, 5, 4, 3, 2, 1), -1)
	checkLine(t, "three", checkExpire(t, l, 30, 5, 4, 3), 40, 1, 2)
	checkLine(t, "served", checkServe(t, checkServe(t, l, 1), 2), 10, 3, 4, 5)
	// The first expires last, although the line serves it first.
	for k := range 5 {
		l = checkExpire(t, l, 10*(k+1), 5-k)
		checkLine(t, "one by one", l, []int{20, 30, 40, 50, -1}[k], idsUpTo(4-k)...)
	}
}

func TestEqualDeadlines(t *testing.T) {
	l := lineOf(t, request{5, 8}, request{2, 8}, request{9, 8}, request{1, 8})
	checkLine(t, "equal", l, 8, 5, 2, 9, 1)
	checkNobodyExpires(t, l, 7)
	checkLine(t, "at the deadline", checkExpire(t, l, 8, 5, 2, 9, 1), -1)
	checkLine(t, "without the second", checkExpire(t, checkLeave(t, l, 2), 8, 5, 9, 1), -1)
	// A ticket that comes back with the same deadline is behind the others.
	again, _ := impl.Enqueue(checkLeave(t, l, 5), 5, 8)
	checkLine(t, "back", checkExpire(t, again, 9, 2, 9, 1, 5), -1)
}

// TestSlotsAfterExpire compares with RemoveAt and CancelDue, ticket by ticket.
func TestSlotsAfterExpire(t *testing.T) {
	l := lineOf(t, request{4, 10}, request{8, 7}, request{2, 12}, request{6, 7}, request{1, 30})
	for now := 5; now <= 31; now++ {
		got, tickets := impl.Expire(l, now)
		want := copyOfLine(l)
		for _, ticket := range tickets {
			want.Queue, _ = impl.RemoveAt(want.Queue, impl.PlaceOf(want.Queue, ticket))
			want.Heap, _ = impl.CancelDue(want.Heap, ticket)
		}
		if !equalLines(got, want) {
			t.Errorf("Expire(%d) = %v, want %v", now, got, want)
		}
	}
}

// TestTheLastSeq uses up the numbers of the Heap: it refuses, so the line does.
func TestTheLastSeq(t *testing.T) {
	l := lineOf(t, request{4, 10})
	l.Heap.Seq = top - 1
	l, ok := impl.Enqueue(l, 5, 3)
	if !ok {
		t.Error("the last Seq is refused")
	}
	checkLine(t, "the last Seq", l, 3, 4, 5)
	for _, ticket := range []int{1, 4, 5, 6} {
		checkEnqueueRefused(t, l, ticket, 3)
	}
	checkLine(t, "served", checkServe(t, l, 4), 3, 5)
	checkLine(t, "left", checkLeave(t, l, 5), 10, 4)
	empty := checkExpire(t, l, 10, 5, 4)
	checkLine(t, "expired", empty, -1)
	checkEnqueueRefused(t, empty, 1, 1)
}

// plainLine is what the line must do: the requests in order of arrival, and
// models of the places in the Queue and in the Heap.
type plainLine struct {
	requests []request
	queue    *plainQueue
	heap     *plainHeap
}

func newPlainLine() *plainLine { return &plainLine{queue: newPlainQueue(), heap: &plainHeap{}} }

func (m *plainLine) indexOf(ticket int) int {
	return slices.IndexFunc(m.requests, func(r request) bool { return r.ticket == ticket })
}

func (m *plainLine) enqueue(r request) bool {
	if r.ticket < 1 || r.ticket > top || r.until < 0 || r.until > top || len(m.requests) == impl.MaxQueue || m.indexOf(r.ticket) >= 0 {
		return false
	}
	m.requests = append(m.requests, r)
	return m.queue.push(r.ticket) >= 0 && m.heap.schedule(r.ticket, r.until)
}

func (m *plainLine) leave(ticket int) bool {
	k := m.indexOf(ticket)
	if k < 0 {
		return false
	}
	m.requests = slices.Delete(m.requests, k, k+1)
	m.queue.remove(m.queue.places[k])
	return m.heap.cancel(ticket)
}

func (m *plainLine) serve() int {
	if len(m.requests) == 0 {
		return 0
	}
	ticket := m.requests[0].ticket
	m.leave(ticket)
	return ticket
}

// expire sorts by deadline; requests of one deadline stay in order of arrival.
func (m *plainLine) expire(now int) []int {
	var tickets []int
	late := slices.SortedStableFunc(slices.Values(m.requests), func(a, b request) int { return a.until - b.until })
	for _, r := range late {
		if r.until <= now {
			m.leave(r.ticket)
			tickets = append(tickets, r.ticket)
		}
	}
	return tickets
}

func (m *plainLine) line() impl.Line {
	return impl.Line{Queue: m.queue.queue(), Heap: impl.Heap{Items: m.heap.items, Seq: m.heap.seq}}
}

func (m *plainLine) tickets() []int {
	var tickets []int
	for _, r := range m.requests {
		tickets = append(tickets, r.ticket)
	}
	return tickets
}

func (m *plainLine) next() int {
	next := -1
	for _, r := range m.requests {
		if next < 0 || r.until < next {
			next = r.until
		}
	}
	return next
}

// lineOp is an operation of a test: what happens, and to whom and when.
type lineOp struct{ kind, a, b int }

const (
	opEnqueue = iota // the ticket a with the deadline b
	opLeave          // the ticket a
	opServe
	opExpire // at a
)

// apply returns the line and all other results, as a list.
func (o lineOp) apply(l impl.Line) (impl.Line, []int) {
	switch o.kind {
	case opEnqueue:
		next, ok := impl.Enqueue(l, o.a, o.b)
		return next, []int{truth(ok)}
	case opLeave:
		next, ok := impl.Leave(l, o.a)
		return next, []int{truth(ok)}
	case opServe:
		next, ticket := impl.ServeFirst(l)
		return next, []int{ticket}
	}
	return impl.Expire(l, o.a)
}

func (m *plainLine) apply(o lineOp) []int {
	switch o.kind {
	case opEnqueue:
		return []int{truth(m.enqueue(request{o.a, o.b}))}
	case opLeave:
		return []int{truth(m.leave(o.a))}
	case opServe:
		return []int{m.serve()}
	}
	return m.expire(o.a)
}

func truth(ok bool) int {
	if ok {
		return 1
	}
	return 0
}

// checkLinePlay follows the operations on a new line and on the model.
func checkLinePlay(t *testing.T, ops []lineOp) {
	t.Helper()
	l, m := impl.NewLine(), newPlainLine()
	for k, o := range ops {
		before := copyOfLine(l)
		next, got := o.apply(l)
		want := m.apply(o)
		if !slices.Equal(got, want) || !equalLines(next, m.line()) || !impl.LineOk(next) {
			t.Fatalf("%v: the last one gives %v and %v, want %v and %v", ops[:k+1], got, next, want, m.line())
		}
		if list, first := impl.LineList(next), impl.NextExpiry(next); !slices.Equal(list, m.tickets()) || first != m.next() {
			t.Fatalf("%v: LineList = %v, NextExpiry = %d, want %v, %d", ops[:k+1], list, first, m.tickets(), m.next())
		}
		if !equalLines(l, before) {
			t.Fatalf("%v: the argument changed", ops[:k+1])
		}
		l = next
	}
}

func TestEveryShortLinePlay(t *testing.T) {
	choice := []lineOp{
		{opEnqueue, 1, 2}, {opEnqueue, 2, 1}, {opEnqueue, 3, 2},
		{opLeave, 1, 0}, {opLeave, 2, 0}, {opServe, 0, 0}, {opExpire, 1, 0}, {opExpire, 2, 0},
	}
	const length = 4
	for code := range power(len(choice), length) {
		// Without this ticket most of the plays would begin with an empty line.
		ops := []lineOp{{opEnqueue, 4, 1}}
		for range length {
			ops = append(ops, choice[code%len(choice)])
			code /= len(choice)
		}
		checkLinePlay(t, ops)
	}
}

// drawnLineOps has more arrivals than departures in some plays, so that the
// line is full, and the reverse in others, so that it is empty.
func drawnLineOps(draw func(int) int, arrivals int) []lineOp {
	var ops []lineOp
	now := 0
	for range 250 {
		now += draw(2)
		switch kind := draw(5 + arrivals); kind {
		case 0:
			ops = append(ops, lineOp{opServe, 0, 0})
		case 1, 2:
			ops = append(ops, lineOp{opLeave, draw(90), 0})
		case 3:
			ops = append(ops, lineOp{opExpire, now - draw(3), 0})
		default:
			ops = append(ops, lineOp{opEnqueue, draw(90), now + draw(60) - 2})
		}
	}
	return ops
}

func TestDrawnLinePlays(t *testing.T) {
	for seed := range 24 {
		draw := drawer(seed*7919 + 9)
		checkLinePlay(t, drawnLineOps(draw, []int{1, 4, 9, 20}[seed%4]))
	}
}

// office follows every ticket to its ends, of which each must have one. The
// tickets are numbered in order of arrival.
type office struct {
	line       impl.Line
	until      map[int]int
	ends       map[int]int
	lastServed int
}

// arrive expects that only a full line refuses, which is an end, too.
func (f *office) arrive(t *testing.T, deadline int) {
	t.Helper()
	ticket, room := len(f.until)+1, len(impl.LineList(f.line)) < impl.MaxQueue
	next, ok := impl.Enqueue(f.line, ticket, deadline)
	if ok != room {
		t.Errorf("Enqueue of %d is %v", ticket, ok)
	}
	f.line, f.until[ticket] = next, deadline
	f.ends[ticket] += 1 - truth(ok)
}

func (f *office) leave(t *testing.T, ticket int) {
	t.Helper()
	waits := slices.Contains(impl.LineList(f.line), ticket)
	next, ok := impl.Leave(f.line, ticket)
	if ok != waits {
		t.Errorf("Leave of %d is %v", ticket, ok)
	}
	f.line = next
	f.ends[ticket] += truth(ok)
}

func (f *office) serve(t *testing.T) {
	t.Helper()
	waits := len(impl.LineList(f.line)) > 0
	next, ticket := impl.ServeFirst(f.line)
	f.line = next
	if (ticket > 0) != waits || waits && ticket <= f.lastServed {
		t.Errorf("%d is served after %d", ticket, f.lastServed)
	}
	if waits {
		f.lastServed = ticket
		f.ends[ticket]++
	}
}

// expire is called at every tick, so that a ticket expires exactly at its deadline.
func (f *office) expire(t *testing.T, now int) {
	t.Helper()
	var tickets []int
	f.line, tickets = impl.Expire(f.line, now)
	for _, ticket := range tickets {
		if f.until[ticket] != now {
			t.Errorf("%d expires at %d and not at %d", ticket, now, f.until[ticket])
		}
		f.ends[ticket]++
	}
	for _, ticket := range impl.LineList(f.line) {
		if f.until[ticket] <= now {
			t.Errorf("%d still waits at %d, after %d", ticket, now, f.until[ticket])
		}
	}
}

func TestNoTicketIsLost(t *testing.T) {
	for seed := range 20 {
		draw := drawer(seed*104729 + 3)
		f := &office{line: impl.NewLine(), until: map[int]int{}, ends: map[int]int{}}
		for now := range 200 {
			f.expire(t, now)
			for range draw(4) {
				f.arrive(t, now+1+draw(40+seed*8))
			}
			if draw(3) == 0 {
				f.leave(t, draw(len(f.until)+1))
			}
			if draw(2) == 0 {
				f.serve(t)
			}
		}
		for _, ticket := range impl.LineList(f.line) {
			f.ends[ticket]++
		}
		for ticket := 1; ticket <= len(f.until); ticket++ {
			if f.ends[ticket] != 1 {
				t.Errorf("seed %d: ticket %d has %d ends", seed, ticket, f.ends[ticket])
			}
		}
	}
}

type brokenLine struct {
	what string
	l    impl.Line
}

// linesOfBrokenParts have a fault in the Queue or in the Heap and, as far as
// they can be listed, the same Ids in both.
func linesOfBrokenParts(t *testing.T) []brokenLine {
	t.Helper()
	var list []brokenLine
	for _, c := range brokenQueues(t) {
		heaps := []impl.Heap{{}, lineOf(t, request{7, 4}, request{9, 2}, request{5, 4}).Heap}
		for _, h := range heaps {
			list = append(list, brokenLine{"Queue: " + c.what, impl.Line{Queue: copyOfQueue(c.q), Heap: h}})
		}
	}
	for _, c := range brokenHeaps(t) {
		for _, q := range []impl.Queue{impl.NewQueue(), queueOf(t, idsUpTo(6)...)} {
			list = append(list, brokenLine{"Heap: " + c.what, impl.Line{Queue: q, Heap: copyOfHeap(c.h)}})
		}
	}
	broken := heapOf(t, 3, 4)
	broken.Items[0].At = 5
	return append(list, brokenLine{"both", impl.Line{Heap: broken}}, brokenLine{"the zero value", impl.Line{}})
}

// linesOfOtherIds have a valid Queue and a valid Heap with other Ids.
func linesOfOtherIds(t *testing.T) []brokenLine {
	t.Helper()
	pair := func(what string, q impl.Queue, h impl.Heap) brokenLine {
		return brokenLine{what, impl.Line{Queue: q, Heap: h}}
	}
	swapped := heapOf(t, 3, 4, 5)
	swapped.Items[1].Id = 4
	return []brokenLine{
		pair("no deadlines", queueOf(t, 1), impl.Heap{}),
		pair("no tickets", impl.NewQueue(), heapOf(t, 5)),
		pair("a deadline too few", queueOf(t, 1, 2, 3), heapOf(t, 3, 4)),
		pair("a ticket too few", queueOf(t, 1, 2), heapOf(t, 3, 4, 5)),
		pair("the first ticket is missing", queueOf(t, 2, 3), heapOf(t, 3, 4, 5)),
		pair("the first deadline is missing", queueOf(t, 4, 1, 2, 3), heapOf(t, 3, 4, 5)),
		pair("one differs", queueOf(t, 1, 2, 3), swapped),
		pair("the first differs", queueOf(t, 9, 2, 3), heapOf(t, 3, 4, 5)),
		pair("the last differs", queueOf(t, 1, 2, 9), heapOf(t, 3, 4, 5)),
		pair("all differ", queueOf(t, 7, 8, 9), heapOf(t, 3, 4, 5)),
		pair("one of one differs", queueOf(t, top), heapOf(t, 3)),
		pair("a full queue", fullQueue(t), heapOf(t, repeated(4, impl.MaxQueue-1)...)),
		pair("more deadlines than the queue has slots", fullQueue(t), heapOf(t, repeated(4, impl.MaxQueue+1)...)),
		pair("a full heap", fullQueue(t), fullHeap(t)),
		pair("a full heap and no tickets", impl.NewQueue(), fullHeap(t)),
	}
}

func brokenLines(t *testing.T) []brokenLine {
	t.Helper()
	others := linesOfOtherIds(t)
	for _, c := range others {
		if !impl.QueueOk(c.l.Queue) || !impl.HeapOk(c.l.Heap) {
			t.Fatalf("%s: a part is invalid: %v", c.what, c.l)
		}
	}
	return append(linesOfBrokenParts(t), others...)
}

func TestInvalidLines(t *testing.T) {
	for _, c := range brokenLines(t) {
		l, before := c.l, copyOfLine(c.l)
		if impl.LineOk(l) {
			t.Errorf("%s: LineOk is true", c.what)
		}
		for _, ticket := range []int{0, 1, 2, 3, 4, 7, 9, 500, top} {
			checkEnqueueRefused(t, l, ticket, 5)
			checkLeaveRefused(t, l, ticket)
		}
		checkEnqueueRefused(t, l, 500, -1)
		checkNobodyServed(t, l)
		for _, now := range []int{math.MinInt, -1, 0, 4, top, math.MaxInt} {
			checkNobodyExpires(t, l, now)
		}
		if _, tickets := impl.Expire(l, top); tickets != nil {
			t.Errorf("%s: Expire = %v", c.what, tickets)
		}
		if list, next := impl.LineList(l), impl.NextExpiry(l); list != nil || next != -1 {
			t.Errorf("%s: LineList = %v, NextExpiry = %d", c.what, list, next)
		}
		if !equalLines(l, before) {
			t.Errorf("%s: the argument changed", c.what)
		}
	}
}

// TestLinesInAnyArrangement: the order in the Heap need not be that of arrival,
// and a Seq need not be that of the last one.
func TestLinesInAnyArrangement(t *testing.T) {
	l := impl.Line{
		Queue: queueOf(t, 3, 2, 9),
		Heap:  impl.Heap{Items: []impl.Due{{At: 5, Seq: 1, Id: 2}, {At: 5, Seq: 4, Id: 9}, {At: 5, Seq: 2, Id: 3}}, Seq: 6},
	}
	checkLine(t, "arranged", l, 5, 3, 2, 9)
	checkLine(t, "served", checkServe(t, l, 3), 5, 2, 9)
	checkLine(t, "expired", checkExpire(t, l, 5, 2, 3, 9), -1)
	next, ok := impl.Enqueue(l, 1, 5)
	if !ok {
		t.Error("Enqueue refuses")
	}
	checkLine(t, "enqueued", checkExpire(t, next, 5, 2, 3, 9, 1), -1)
}

// roomyLine has spare capacity behind both lists, filled with values that no
// call may change.
func roomyLine(l impl.Line) impl.Line {
	slots := append(make([]impl.Slot, 0, len(l.Queue.Slots)+5), l.Queue.Slots...)
	items := append(make([]impl.Due, 0, len(l.Heap.Items)+5), l.Heap.Items...)
	for k := len(slots); k < cap(slots); k++ {
		slots[:cap(slots)][k] = impl.Slot{Id: 77}
	}
	for k := len(items); k < cap(items); k++ {
		items[:cap(items)][k] = impl.Due{Id: 77}
	}
	l.Queue.Slots, l.Heap.Items = slots, items
	return l
}

// whole is the line with the spare capacity of its lists.
func whole(l impl.Line) impl.Line {
	l.Queue.Slots = l.Queue.Slots[:cap(l.Queue.Slots)]
	l.Heap.Items = l.Heap.Items[:cap(l.Heap.Items)]
	return l
}

// spoil overwrites all the memory of a line and of a list.
func spoil(l impl.Line, list []int) {
	w := whole(l)
	for k := range w.Queue.Slots {
		w.Queue.Slots[k] = impl.Slot{Id: -5, Prev: -5, Next: -5}
	}
	for k := range w.Heap.Items {
		w.Heap.Items[k] = impl.Due{At: -5, Seq: -5, Id: -5}
	}
	for k := range list[:cap(list)] {
		list[:cap(list)][k] = -5
	}
}

// checkLineUnshared spoils a result and then the argument, and expects that
// the other of them and a second result stay as they are.
func checkLineUnshared(t *testing.T, l impl.Line, call func(impl.Line) (impl.Line, []int)) {
	t.Helper()
	l = roomyLine(l)
	before := copyOfLine(whole(l))
	first, list := call(l)
	second, other := call(l)
	kept, keptList := copyOfLine(second), slices.Clone(other)
	spoil(first, nil)
	if !equalLines(whole(l), before) || !equalLines(second, kept) || !slices.Equal(list, keptList) {
		t.Errorf("a change of a resulting line changes something else, for %v", before)
	}
	spoil(impl.Line{}, list)
	if !equalLines(whole(l), before) || !equalLines(second, kept) || !slices.Equal(other, keptList) {
		t.Errorf("a change of a resulting list changes something else, for %v", before)
	}
	spoil(l, nil)
	if !equalLines(second, kept) || !slices.Equal(other, keptList) {
		t.Errorf("a change of the argument %v changes a result", before)
	}
}

func TestLinesShareNoMemory(t *testing.T) {
	lines := []impl.Line{impl.NewLine(), lineOf(t, request{4, 10}), lineOf(t, request{4, 10}, request{8, 7}, request{2, 10}), fullLine(t)}
	for _, c := range brokenLines(t) {
		lines = append(lines, c.l)
	}
	ops := []lineOp{
		{opEnqueue, 500, 5}, {opEnqueue, 4, 5}, {opEnqueue, 0, 5}, {opEnqueue, 500, -1},
		{opLeave, 4, 0}, {opLeave, 2, 0}, {opLeave, 500, 0}, {opServe, 0, 0},
		{opExpire, -1, 0}, {opExpire, 7, 0}, {opExpire, top, 0},
	}
	for _, l := range lines {
		for _, o := range ops {
			checkLineUnshared(t, l, o.apply)
		}
		checkLineUnshared(t, l, func(l impl.Line) (impl.Line, []int) {
			impl.LineOk(l)
			impl.NextExpiry(l)
			return impl.NewLine(), impl.LineList(l)
		})
	}
}
