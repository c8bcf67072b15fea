package tests

import (
	"fmt"
	"reflect"
	"runtime"
	"slices"
	"testing"

	"loop.example/g00722/impl"
)

// everyScript yields the scripts of the length that consist of the choice.
func everyScript(choice []impl.Op, length int) func(func([]impl.Op) bool) {
	return func(yield func([]impl.Op) bool) {
		for code := range power(len(choice), length) {
			ops := make([]impl.Op, length)
			for k := range ops {
				ops[k] = choice[code%len(choice)]
				code /= len(choice)
			}
			if !yield(ops) {
				return
			}
		}
	}
}

func TestMetricsOfEveryShortPlay(t *testing.T) {
	choice := opsOf(t, "tick 1; tick 10; borrow; return 1 1; return 1 2; invalid 1 1; cancel 2; dialed 1 1; dialed 2 1; dialed 1 0; fault 1; go; resize 0 1; drain; shut")
	for _, stage := range []string{"", "tick 3; borrow; borrow; dialed 1 1; tick 2", "tick 1; dialed 1 1; rest; borrow; borrow; tick 3", "tick 1; borrow; dialed 1 1; tick 4; drain; tick 4"} {
		for _, fields := range []string{"min=1 max=2 keep=10 leak=9 trips=2", "min=0 max=2 life=11 idle=10 wait=10 trips=1 cool=1 drain=5"} {
			t.Run(fields+"/"+stage, func(t *testing.T) {
				t.Parallel()
				c, start := poolConfig(t, fields), opsOf(t, stage)
				for ops := range everyScript(choice, 3) {
					checkMetrics(t, c, slices.Concat(start, ops))
				}
			})
		}
	}
}

func TestEveryPairOfShortStories(t *testing.T) {
	choice := opsOf(t, "tick 10; borrow; borrow 20; return 1 1; cancel 1; dialed 1 1; dialed 1 0; fault 1; rest; drain; tick -1")
	for _, stage := range []string{"", "borrow; dialed 1 1", "borrow; borrow"} {
		t.Run(stage, func(t *testing.T) {
			t.Parallel()
			c, start := poolConfig(t, "max=1 wait=10"), opsOf(t, stage)
			var scripts [][]impl.Op
			for length := range 3 {
				for ops := range everyScript(choice, length) {
					scripts = append(scripts, slices.Concat(start, ops))
				}
			}
			seen := [2]int{}
			for k, a := range scripts {
				for _, b := range scripts[:k+1] {
					same := plainSame(c, a, b)
					checkSame(t, c, a, b, same)
					seen[truth(same)]++
				}
			}
			if seen[0] < 1000 || seen[1] < 500 {
				t.Errorf("of the pairs %v differ and agree", seen)
			}
		})
	}
}

// checkTickets: promise 16, the number of borrowed tickets.
func checkTickets(t *testing.T, c impl.Config, ops []impl.Op) {
	t.Helper()
	m, ok := impl.MeasureOf(c, ops)
	still := impl.StillWaiting(c, ops)
	if !ok || still < 0 || m.Borrowed != m.Granted+m.TimedOut+m.Cancelled+m.Rejected+still {
		t.Errorf("%+v, %v: %+v, %v, %d still wait", c, ops, m, ok, still)
	}
	p, _, _ := played(t, c, ops)
	if m.Borrowed != p.NextTicket-1 || still != len(impl.LineList(p.Line)) {
		t.Errorf("%+v, %v: %+v, %d still wait, in the pool %s", c, ops, m, still, poolText(p))
	}
	waits := impl.GrantWaits(c, ops)
	if len(waits) != m.Granted || impl.LongestWait(c, ops) != slices.Max(append(waits, -1)) {
		t.Errorf("%+v, %v: %+v, the waits are %v", c, ops, m, waits)
	}
}

// checkConnections: what the measures say of the connections.
func checkConnections(t *testing.T, c impl.Config, ops []impl.Op) {
	t.Helper()
	p, _, _ := played(t, c, ops)
	m, _ := impl.MeasureOf(c, ops)
	dialed, time := p.NextConn-1, impl.HeldTime(c, ops)
	if len(p.Conns) != dialed-m.Failed-m.Closed || m.Opened+m.Failed > dialed || m.Leaks > m.Granted || m.Most > dialed {
		t.Errorf("%+v, %v: %+v, %d dialed, %d at the end", c, ops, m, dialed, len(p.Conns))
	}
	busy := impl.PermilleBusy(c, ops)
	if time < 0 || time > p.Now*dialed || p.Now > 0 && busy != 1000*time/(p.Now*c.Max) || p.Now == 0 && busy != 0 {
		t.Errorf("%+v, %v: held %d until %d, %d dialed, %d permille", c, ops, time, p.Now, dialed, busy)
	}
	if slices.ContainsFunc(ops, func(o impl.Op) bool { return o.Kind == doResize }) {
		return
	}
	if m.Most > c.Max || busy > 1000 {
		t.Errorf("%+v, %v: %+v, %d permille", c, ops, m, busy)
	}
}

// checkRepeated: Repeat gives n copies in order.
func checkRepeated(t *testing.T, ops []impl.Op, n int) {
	t.Helper()
	got, ok := impl.Repeat(ops, n)
	if !ok || len(got) != n*len(ops) {
		t.Fatalf("Repeat of %v, %d times: %d operations, %v", ops, n, len(got), ok)
	}
	for k, o := range got {
		if o != ops[k%len(ops)] {
			t.Errorf("Repeat of %v, %d times: operation %d is %v", ops, n, k, o)
		}
	}
}

func TestMetricsOfDrawnPlays(t *testing.T) {
	for k, c := range playConfigs(t) {
		t.Run(fmt.Sprint(k), func(t *testing.T) {
			t.Parallel()
			for seed := range 12 {
				draw := drawer(seed*43 + k)
				ops := drawnOps(draw, c, impl.MaxOps)
				middle := 1 + draw(impl.MaxOps-1)
				for _, script := range [][]impl.Op{ops, ops[:middle], withoutResizes(ops), endedOps(draw, ops[middle:], doDrain), endedOps(draw, ops[middle:], doShut)} {
					checkMetrics(t, c, script)
					checkTickets(t, c, script)
					checkConnections(t, c, script)
					checkSame(t, c, script, slices.Clone(script), true)
				}
				checkRepeated(t, ops[:middle], draw(impl.MaxOps/middle+1))
				changed := slices.Delete(slices.Clone(ops), middle, middle+1)
				checkSame(t, c, ops, changed, plainSame(c, ops, changed))
			}
		})
	}
}

// TestRepeatedPlays: the copies of a script are played one after the other.
func TestRepeatedPlays(t *testing.T) {
	c := poolConfig(t, "max=1")
	round := opsOf(t, "borrow; tick 2; dialed 1 1; tick 3; invalid 1 1; tick 5")
	ops, ok := impl.Repeat(round, 3)
	want := metrics{impl.Measure{Borrowed: 3, Granted: 1, Opened: 1, Closed: 1, Most: 1}, true, []int{2}, 2, 2, 3, 100}
	if got := metricsOf(c, ops); !ok || !equalMetrics(got, want) {
		t.Errorf("of three rounds: %+v, want %+v", got, want)
	}
	for k, c := range playConfigs(t) {
		for seed := range 6 {
			draw := drawer(seed*61 + k)
			part := drawnOps(draw, c, 1+draw(40))
			ops, _ := impl.Repeat(part, impl.MaxOps/len(part))
			checkMetrics(t, c, ops)
			checkTickets(t, c, ops)
			checkConnections(t, c, ops)
		}
	}
}

// TestHeldTimeGrows: in every step the time of the holders passes, whatever
// ends their grants. A tick grants nothing, because what it finds idle is not
// wanted, and what it dials must first be opened.
func TestHeldTimeGrows(t *testing.T) {
	ends := map[int]int{}
	for k, c := range playConfigs(t) {
		for seed := range 6 {
			draw := drawer(seed*67 + k)
			ops := endedOps(draw, drawnOps(draw, c, 80), doDrain)
			sum := 0
			for n, s := range stepsOf(t, c, ops) {
				sum += (s.after.Now - s.before.Now) * impl.CountState(s.before, held)
				if got := impl.HeldTime(c, ops[:n+1]); got != sum {
					t.Errorf("%+v, %v: held %d, want %d", c, ops[:n+1], got, sum)
				}
				if s.op.Kind == doTick && s.count(tellGrant) > 0 {
					t.Errorf("%+v, %v: a tick grants", c, ops[:n+1])
				}
				if gone := impl.CountState(s.before, held) + s.count(tellGrant) - impl.CountState(s.after, held); gone > 0 {
					ends[s.op.Kind] += gone
				}
			}
		}
	}
	for _, kind := range []int{doTick, doReturn, doInvalidate, doFault} {
		if ends[kind] < 3 {
			t.Errorf("only %d grants are ended by %q", ends[kind], opNames()[kind])
		}
	}
}

// TestQuietMetrics: promise 16, before PoolNext nothing happens by itself: only
// the holders' time passes.
func TestQuietMetrics(t *testing.T) {
	quiet := 0
	for k, c := range playConfigs(t) {
		for seed := range 40 {
			draw := drawer(seed*73 + k)
			ops := drawnOps(draw, c, 1+draw(90))
			p, _, _ := played(t, c, ops)
			before := metricsOf(c, ops)
			for _, span := range quietSpans(p) {
				later := append(ops[:len(ops):len(ops)], impl.Op{A: span})
				after := metricsOf(c, later)
				if after.held != before.held+span*impl.CountState(p, held) {
					t.Errorf("%+v, %v: held %d, then %d", c, later, before.held, after.held)
				}
				after.held, after.busy = before.held, before.busy
				if !equalMetrics(after, before) {
					t.Errorf("%+v, %v: %+v, then %+v", c, later, before, after)
				}
				checkSame(t, c, ops, later, true)
				quiet += truth(span > 0)
			}
		}
	}
	if quiet < 300 {
		t.Errorf("only %d quiet ticks", quiet)
	}
}

// script is a play with another one to compare it with.
type script struct {
	c          impl.Config
	ops, other []impl.Op
}

// severalScripts has short and long scripts, and some that PlayPool fails for.
func severalScripts(t *testing.T) []script {
	t.Helper()
	long := slices.Repeat(opsOf(t, "borrow"), impl.MaxOps+1)
	list := []script{{poolConfig(t, ""), nil, nil}, {poolConfig(t, ""), long, long}, {poolConfig(t, ""), long[1:], long}, {impl.Config{}, nil, long[:3]}}
	for k, c := range playConfigs(t) {
		draw := drawer(k * 79)
		ops := drawnOps(draw, c, 90)
		list = append(list, script{c, ops, ops}, script{c, ops, endedOps(draw, ops, doShut)}, script{c, endedOps(draw, ops, doDrain), ops[:80]})
	}
	return list
}

// scriptAnswers has what every function says of a script.
type scriptAnswers struct {
	metrics  metrics
	repeated []impl.Op
	fits     bool
	same     bool
}

func scriptAnswersOf(s script) scriptAnswers {
	a := scriptAnswers{metrics: metricsOf(s.c, s.ops), same: impl.SameStory(s.c, s.ops, s.other)}
	a.repeated, a.fits = impl.Repeat(s.ops, 2)
	return a
}

func spoilOps(list []impl.Op) {
	for k := range list[:cap(list)] {
		list[:cap(list)][k] = impl.Op{Kind: -5, A: -5, B: -5, C: -5}
	}
}

// TestScriptsAreKept: no function changes its argument, also behind its end,
// and no result shares memory with it or with another result.
func TestScriptsAreKept(t *testing.T) {
	for _, s := range severalScripts(t) {
		room := make([]impl.Op, 2*len(s.ops)+5)
		spoilOps(room)
		copy(room, s.ops)
		kept := s
		kept.ops = room[:len(s.ops)]
		kept.other = room[:min(len(s.ops), 7)]
		whole := slices.Clone(room)
		first, second := scriptAnswersOf(kept), scriptAnswersOf(kept)
		once, _ := impl.Repeat(kept.ops, 1)
		none, _ := impl.Repeat(kept.ops, 0)
		if !reflect.DeepEqual(first, second) {
			t.Fatalf("%v: %+v, then %+v", s.ops, first, second)
		}
		spoilNumbers(first.metrics.waits)
		for _, list := range [][]impl.Op{first.repeated, once, none} {
			_ = append(list, impl.Op{Kind: 77})
			spoilOps(list)
		}
		if !slices.Equal(room, whole) {
			t.Fatalf("%v: an argument changed", s.ops)
		}
		if third := scriptAnswersOf(kept); !reflect.DeepEqual(second, third) {
			t.Errorf("%v: %+v, then %+v", s.ops, second, third)
		}
	}
}

// TestScriptsAtTheSameTime: an answer depends neither on the calls before it
// nor on the order in which goroutines run.
func TestScriptsAtTheSameTime(t *testing.T) {
	list := severalScripts(t)
	var first []scriptAnswers
	for _, s := range list {
		first = append(first, scriptAnswersOf(s))
	}
	for k, s := range slices.Backward(list) {
		if again := scriptAnswersOf(s); !reflect.DeepEqual(again, first[k]) {
			t.Errorf("%v: %+v, then %+v", s.ops, first[k], again)
		}
	}
	most := runtime.GOMAXPROCS(0)
	defer runtime.GOMAXPROCS(most)
	for _, processors := range []int{1, 2, most} {
		runtime.GOMAXPROCS(processors)
		again := make(chan bool)
		for k, s := range list {
			for range 3 {
				go func() { again <- reflect.DeepEqual(scriptAnswersOf(s), first[k]) }()
			}
		}
		for range 3 * len(list) {
			if !<-again {
				t.Errorf("with %d processors an answer differs", processors)
			}
		}
	}
}

// TestNoTellerStays: all goroutines end, also where PlayPool fails.
func TestNoTellerStays(t *testing.T) {
	list := severalScripts(t)
	before := runtime.NumGoroutine()
	for range 5 {
		for _, s := range list {
			scriptAnswersOf(s)
		}
	}
	checkNoWorkerStays(t, before)
}
