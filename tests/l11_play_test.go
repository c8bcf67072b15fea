package tests

import (
	"fmt"
	"reflect"
	"runtime"
	"slices"
	"testing"
	"time"

	"loop.example/g00722/impl"
)

func TestEveryShortLog(t *testing.T) {
	choice := logOf(t, "dial 1, dial 2, open 1, fail 1, grant 1 1, grant 2 1, grant 2 2, back 1 1, back 2 1, close 0 1, close 1 1, "+
		"probe 1, late 1, gone 2, no 1, leak 1 1, leak 2 1, mode 1, mode 2, mode 3")
	choice = append(choice, impl.Event{Kind: tellLate, Ticket: 1, Conn: 1})
	const length = 3
	for _, stage := range []string{"", "dial 1, open 1", "dial 1, open 1, grant 1 1", "mode 2, grant 2 2"} {
		t.Run(stage, func(t *testing.T) {
			t.Parallel()
			start := logOf(t, stage)
			for code := range power(len(choice), length) {
				log := slices.Clone(start)
				for range length {
					log = append(log, choice[code%len(choice)])
					code /= len(choice)
				}
				checkLog(t, log)
			}
		})
	}
}

// changedLog does to a log what a fault of the pool might do to it.
func changedLog(draw func(int) int, log []impl.Event) []impl.Event {
	changed := slices.Clone(log)
	k, other := draw(len(log)), draw(len(log))
	switch draw(7) {
	case 0:
		return slices.Delete(changed, k, k+1)
	case 1:
		return slices.Insert(changed, k, log[other])
	case 2:
		changed[k], changed[other] = changed[other], changed[k]
	case 3:
		changed[k].Kind = draw(14) - 1
	case 4:
		changed[k].Ticket = draw(6)
	case 5:
		changed[k].Conn = draw(6)
	case 6:
		next := min(k+1, len(log)-1)
		changed[k], changed[next] = changed[next], changed[k]
	}
	return changed
}

// TestChangedLogs compares the functions with their models on logs that are
// almost those of a pool. Each predicate must be met and missed among them.
func TestChangedLogs(t *testing.T) {
	seen := map[string][2]int{}
	for k, c := range playConfigs(t) {
		for seed := range 40 {
			draw := drawer(seed*53 + k)
			_, log, _ := played(t, c, drawnOps(draw, c, 30+draw(50)))
			for range 3 {
				if len(log) > 0 {
					log = changedLog(draw, log)
				}
				checkLog(t, log)
				for _, p := range predicates() {
					count := seen[p.name]
					count[truth(p.holds(log))]++
					seen[p.name] = count
				}
			}
		}
	}
	for name, count := range seen {
		if count[0] < 20 || count[1] < 20 {
			t.Errorf("%s is missed by %d and met by %d of the logs", name, count[0], count[1])
		}
	}
}

// endedOps puts an operation that ends the pool somewhere between the others.
func endedOps(draw func(int) int, ops []impl.Op, kind int) []impl.Op {
	return slices.Insert(slices.Clone(ops), draw(len(ops)+1), impl.Op{Kind: kind})
}

// checkPoolLog: promise 10, the log of a pool satisfies chapter 11 and agrees
// with the pool.
func checkPoolLog(t *testing.T, c impl.Config, ops []impl.Op) {
	t.Helper()
	pool, log, _ := played(t, c, ops)
	for _, p := range predicates() {
		if !p.holds(log) {
			t.Errorf("%+v, %v: %s of %s is false", c, ops, p.name, logText(log))
		}
	}
	var holders []int
	for _, conn := range pool.Conns {
		if conn.State == held {
			holders = append(holders, conn.Ticket)
		}
	}
	slices.Sort(holders)
	if got := impl.HoldersAt(log, len(log)); !slices.Equal(got, holders) {
		t.Errorf("%+v, %v: HoldersAt = %v, in the pool %v", c, ops, got, holders)
	}
	waiting := impl.LineList(pool.Line)
	for ticket := 1; ticket < pool.NextTicket; ticket++ {
		if got := impl.AnswerOf(log, ticket); (got < 0) != slices.Contains(waiting, ticket) {
			t.Errorf("%+v, %v: AnswerOf(%d) = %d, %v wait", c, ops, ticket, got, waiting)
		}
	}
	if got := impl.AnswerOf(log, pool.NextTicket); got != -1 {
		t.Errorf("%+v, %v: AnswerOf of a ticket to come = %d", c, ops, got)
	}
	if !impl.PoolSafe(pool) {
		t.Errorf("%+v, %v: not safe: %s", c, ops, poolText(pool))
	}
}

func TestLogsOfPools(t *testing.T) {
	for k, c := range playConfigs(t) {
		t.Run(fmt.Sprint(k), func(t *testing.T) {
			t.Parallel()
			for seed := range 40 {
				draw := drawer(seed*71 + k)
				ops := drawnOps(draw, c, impl.MaxOps)
				checkPoolLog(t, c, ops)
				ops = ops[:60+draw(100)]
				checkPoolLog(t, c, ops)
				checkPoolLog(t, c, endedOps(draw, ops, doDrain))
				checkPoolLog(t, c, endedOps(draw, ops, doShut))
				checkPoolLog(t, c, endedOps(draw, endedOps(draw, ops, doDrain), doShut))
			}
		})
	}
}

// TestBeginningsOfLogs: a log satisfies chapter 11 at every moment.
func TestBeginningsOfLogs(t *testing.T) {
	for k, c := range playConfigs(t) {
		draw := drawer(k * 19)
		_, log, _ := played(t, c, endedOps(draw, drawnOps(draw, c, 120), doDrain))
		for n := range len(log) + 1 {
			checkLog(t, log[:n])
			for _, p := range predicates() {
				if !p.holds(log[:n]) {
					t.Errorf("%s of %s is false", p.name, logText(log[:n]))
				}
			}
		}
	}
}

func withoutResizes(ops []impl.Op) []impl.Op {
	return slices.DeleteFunc(slices.Clone(ops), func(o impl.Op) bool { return o.Kind == doResize })
}

// TestLiveWithoutResize: promise 11, there are never more connections than Max.
func TestLiveWithoutResize(t *testing.T) {
	for k, c := range playConfigs(t) {
		full := false
		for seed := range 40 {
			draw := drawer(seed*37 + k)
			ops := withoutResizes(drawnOps(draw, c, impl.MaxOps))
			p, log, _ := played(t, c, ops)
			live := impl.LiveAfter(log)
			for place, n := range live {
				if n < 0 || n > c.Max {
					t.Errorf("%+v, %v: %d connections after event %d", c, ops, n, place)
				}
			}
			if len(live) > 0 && (live[len(live)-1] != len(p.Conns) || impl.MostLive(log) != slices.Max(live)) {
				t.Errorf("%+v, %v: LiveAfter %v, MostLive %d, in the pool %d", c, ops, live, impl.MostLive(log), len(p.Conns))
			}
			full = full || impl.MostLive(log) == c.Max
		}
		if !full {
			t.Errorf("%+v: no play reaches Max", c)
		}
	}
}

// busyOps make a pool with most connections, of which the first kept ones are
// held. The others are idle or, if not all are opened, still being dialed.
func busyOps(most, kept int, openAll bool) []impl.Op {
	var ops []impl.Op
	for range most {
		ops = append(ops, impl.Op{Kind: doBorrow})
	}
	for conn := 1; conn <= most; conn++ {
		if conn <= kept || openAll {
			ops = append(ops, impl.Op{Kind: doDialed, A: conn, B: 1})
		}
	}
	for conn := kept + 1; conn <= most && openAll; conn++ {
		ops = append(ops, impl.Op{Kind: doReturn, A: conn, B: conn})
	}
	return ops
}

// checkShrunk: promise 11, what follows a resize to a smaller Max does not let
// the number of connections grow until it fits, nor beyond Max afterwards. It
// returns the number of events at which there were too many.
func checkShrunk(t *testing.T, c impl.Config, before []impl.Op, most int, after []impl.Op) int {
	t.Helper()
	_, old, _ := played(t, c, before)
	ops := slices.Concat(before, []impl.Op{{Kind: doResize, A: 0, B: most}}, after)
	_, log, _ := played(t, c, ops)
	live := impl.LiveAfter(log)
	if len(live) != len(log) {
		t.Fatalf("%v: LiveAfter has %d numbers of %d events", ops, len(live), len(log))
	}
	excess := 0
	for k := max(1, len(old)); k < len(log); k++ {
		if live[k] > most && live[k] > live[k-1] {
			t.Errorf("%+v, %v: with Max %d event %d makes %d of %d", c, ops, most, k, live[k], live[k-1])
		}
		excess += truth(live[k] > most)
	}
	return excess
}

func TestLiveAfterResize(t *testing.T) {
	excess := 0
	for k, c := range playConfigs(t) {
		for seed := range 40 {
			draw := drawer(seed*41 + k)
			ops := withoutResizes(drawnOps(draw, c, 190))
			middle := draw(len(ops))
			excess += checkShrunk(t, c, ops[:middle], 1+draw(c.Max), ops[middle:])
		}
	}
	if excess < 300 {
		t.Errorf("only %d events with too many connections", excess)
	}
	// Between the resize and the first return all are held or being dialed, and more wait.
	c := poolConfig(t, "max=12 wait=1000")
	for most := 1; most <= 12; most++ {
		for kept := range 13 {
			for _, openAll := range []bool{false, true} {
				after := opsOf(t, "borrow; borrow; tick 1; return 1 1; borrow; invalid 2 2; tick 3; dialed 4 0; dialed 5 1; return 3 3; tick 9; evict; borrow; tick 40; borrow")
				checkShrunk(t, c, busyOps(12, kept, openAll), most, after)
			}
		}
	}
}

// TestShrinkingByHand follows one pool from four connections to two.
func TestShrinkingByHand(t *testing.T) {
	ops := opsOf(t, "borrow; borrow; borrow; borrow; dialed 1 1; dialed 2 1; dialed 3 1; resize 0 2; borrow; return 1 1; dialed 4 0; return 2 2; return 3 3")
	p, log, _ := played(t, poolConfig(t, "max=4"), ops)
	want := "dial 1, dial 2, dial 3, dial 4, open 1, grant 1 1, open 2, grant 2 2, open 3, grant 3 3, back 1 1, close 0 1, fail 4, back 2 2, grant 4 2, back 3 3, grant 5 3"
	if got := logText(log); got != want || len(p.Conns) != 2 {
		t.Errorf("the log is %s", got)
	}
	if got, want := impl.LiveAfter(log), []int{1, 2, 3, 4, 4, 4, 4, 4, 4, 4, 4, 3, 2, 2, 2, 2, 2}; !slices.Equal(got, want) || impl.MostLive(log) != 4 {
		t.Errorf("LiveAfter = %v, want %v", got, want)
	}
	if got := impl.HoldersAt(log, len(log)); !slices.Equal(got, []int{4, 5}) {
		t.Errorf("HoldersAt = %v", got)
	}
}

// logAnswers has what every function says of a log.
type logAnswers struct {
	holds   [6]bool
	live    []int
	most    int
	holders [][]int
	answers []int
}

func answersOf(log []impl.Event) logAnswers {
	var a logAnswers
	for k, p := range predicates() {
		a.holds[k] = p.holds(log)
	}
	a.live, a.most = impl.LiveAfter(log), impl.MostLive(log)
	for n := -1; n <= len(log)+1; n += 1 + len(log)/9 {
		a.holders = append(a.holders, impl.HoldersAt(log, n))
	}
	for ticket := range 9 {
		a.answers = append(a.answers, impl.AnswerOf(log, ticket))
	}
	return a
}

// severalLogs has logs of pools, changed ones, invalid ones and long ones.
func severalLogs(t *testing.T) [][]impl.Event {
	t.Helper()
	logs := [][]impl.Event{nil, {}, longLog(impl.MaxLog), longLog(impl.MaxLog + 1), {{Kind: 12}}, {{Conn: 1}, {}}}
	for k, c := range playConfigs(t) {
		draw := drawer(k * 7)
		_, log, _ := played(t, c, drawnOps(draw, c, 80))
		logs = append(logs, log, changedLog(draw, log), changedLog(draw, log), changedLog(draw, changedLog(draw, log)))
	}
	return logs
}

func spoilNumbers(list []int) {
	for k := range list[:cap(list)] {
		list[:cap(list)][k] = -5
	}
}

// TestLogsAreKept: no function changes its argument, also behind its end, and
// no result shares memory with it or with another result.
func TestLogsAreKept(t *testing.T) {
	for _, plain := range severalLogs(t) {
		log := append(make([]impl.Event, 0, len(plain)+3), plain...)
		whole := slices.Repeat([]impl.Event{{Kind: 77, Ticket: -7, Conn: 7}}, cap(log))
		copy(whole, plain)
		copy(log[:cap(log)], whole)
		first, second := answersOf(log), answersOf(log)
		if !slices.Equal(log[:cap(log)], whole) {
			t.Fatalf("%s: the argument changed", logText(plain))
		}
		if !reflect.DeepEqual(first, second) {
			t.Fatalf("%s: %v, then %v", logText(plain), first, second)
		}
		spoilNumbers(first.live)
		for _, list := range first.holders {
			spoilNumbers(list)
		}
		if third := answersOf(plain); !reflect.DeepEqual(second, third) {
			t.Errorf("%s: %v, then %v", logText(plain), second, third)
		}
	}
}

// TestLogsAreForgotten: an answer does not depend on the logs before.
func TestLogsAreForgotten(t *testing.T) {
	logs := severalLogs(t)
	var first []logAnswers
	for _, log := range logs {
		first = append(first, answersOf(log))
	}
	for k, log := range slices.Backward(logs) {
		if again := answersOf(log); !reflect.DeepEqual(again, first[k]) {
			t.Errorf("%s: %v, then %v", logText(log), first[k], again)
		}
	}
}

// TestLogsAtTheSameTime: an answer does not depend on the order in which
// goroutines run.
func TestLogsAtTheSameTime(t *testing.T) {
	logs := severalLogs(t)
	var first []logAnswers
	for _, log := range logs {
		first = append(first, answersOf(log))
	}
	most := runtime.GOMAXPROCS(0)
	defer runtime.GOMAXPROCS(most)
	for _, processors := range []int{1, 2, most} {
		runtime.GOMAXPROCS(processors)
		again := make(chan bool)
		for k, log := range logs {
			for range 5 {
				go func() { again <- reflect.DeepEqual(answersOf(log), first[k]) }()
			}
		}
		for range 5 * len(logs) {
			if !<-again {
				t.Errorf("with %d processors an answer differs", processors)
			}
		}
	}
}

// checkNoWorkerStays expects as many goroutines as before.
func checkNoWorkerStays(t *testing.T, before int) {
	t.Helper()
	// A goroutine that has been waited for may still need a moment to end.
	for wait := time.Millisecond; runtime.NumGoroutine() > before; wait *= 2 {
		if wait > 5*time.Second {
			t.Fatalf("%d goroutines, before %d", runtime.NumGoroutine(), before)
		}
		time.Sleep(wait)
	}
}

// TestNoWorkerStays: all goroutines end, whatever the logs are.
func TestNoWorkerStays(t *testing.T) {
	logs := severalLogs(t)
	before := runtime.NumGoroutine()
	for range 20 {
		for _, log := range logs {
			answersOf(log)
		}
	}
	checkNoWorkerStays(t, before)
}
