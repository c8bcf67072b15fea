package tests

import (
	"math"
	"slices"
	"testing"

	"loop.example/g00722/impl"
)

// reading is a play with its metrics, of which LongestWait follows from waits.
type reading struct {
	name    string
	fields  string // in addition to plainly
	ops     string
	measure impl.Measure
	waits   []int
	still   int
	held    int
	busy    int
}

func (r reading) metrics() metrics {
	longest := -1
	if len(r.waits) > 0 {
		longest = slices.Max(r.waits)
	}
	return metrics{r.measure, true, r.waits, longest, r.still, r.held, r.busy}
}

func checkReadings(t *testing.T, list []reading) {
	t.Helper()
	for _, r := range list {
		c, ops := poolConfig(t, r.fields), opsOf(t, r.ops)
		if got, want := metricsOf(c, ops), r.metrics(); !equalMetrics(got, want) {
			t.Errorf("%s: %+v, want %+v", r.name, got, want)
		}
		checkMetrics(t, c, ops)
	}
}

func TestMetricsOfGrants(t *testing.T) {
	one := impl.Measure{Borrowed: 1, Granted: 1, Opened: 1, Most: 1}
	two := impl.Measure{Borrowed: 2, Granted: 2, Opened: 1, Most: 1}
	checkReadings(t, []reading{
		{name: "nothing"},
		{name: "only ticks", ops: "tick 0; tick 10; tick 1000000"},
		{"nobody serves it", "", "tick 3; borrow; tick 2", impl.Measure{Borrowed: 1, Most: 1}, nil, 1, 0, 0},
		{"no tick passes", "", "tick 0; borrow; dialed 1 1; tick 0; return 1 1; borrow", two, []int{0, 0}, 0, 0, 0},
		{"given later, then at once", "", "borrow; tick 3; dialed 1 1; tick 4; return 1 1; tick 1; borrow; tick 2", two, []int{3, 0}, 0, 6, 300},
		{"later by a return", "max=1", "borrow; dialed 1 1; tick 2; borrow; tick 3; return 1 1; tick 5; return 1 2; tick 10", two, []int{0, 3}, 0, 10, 500},
		{"later by a dial that a tick began", "max=1", "borrow; dialed 1 0; tick 1; tick 1; dialed 2 1; tick 2",
			impl.Measure{Borrowed: 1, Granted: 1, Opened: 1, Failed: 1, Most: 1}, []int{2}, 0, 2, 500},
		{"later by an answered probe", "max=1 keep=10", "borrow; dialed 1 1; return 1 1; tick 10; borrow; tick 5; probed 1 1; tick 5", two, []int{0, 5}, 0, 5, 250},
		{"two by one operation", "", "borrow; dialed 1 1; borrow; dialed 2 1; rest; return 1 1; return 2 2; borrow; tick 4; borrow; tick 2; go; tick 1",
			impl.Measure{Borrowed: 4, Granted: 4, Opened: 2, Most: 2}, []int{0, 0, 6, 2}, 0, 2, 142},
		{"the longest is not the last", "max=1", "tick 5; borrow; tick 3; dialed 1 1; borrow; tick 7; return 1 1; borrow; tick 2; return 1 2",
			impl.Measure{Borrowed: 3, Granted: 3, Opened: 1, Most: 1}, []int{3, 7, 2}, 0, 9, 529},
		{"refused operations", "", "borrow -1; borrow; return 1 1; dialed 1 1; tick -1; tick 1000001; tick 5; cancel 1; resize 2 1; dialed 1 1; return 1 2", one, []int{0}, 0, 5, 500},
		{"served before the others", "max=1", "borrow; borrow; borrow; borrow; tick 3; dialed 1 1; tick 1; return 1 1; tick 1; return 1 2; tick 5",
			impl.Measure{Borrowed: 4, Granted: 3, Opened: 1, Most: 1}, []int{3, 4, 5}, 1, 7, 700},
	})
}

func TestMetricsOfEnds(t *testing.T) {
	one := impl.Measure{Borrowed: 1, Granted: 1, Opened: 1, Most: 1}
	closed := impl.Measure{Borrowed: 1, Granted: 1, Opened: 1, Closed: 1, Most: 1}
	leak := impl.Measure{Borrowed: 1, Granted: 1, Opened: 1, Leaks: 1, Most: 1}
	two := impl.Measure{Borrowed: 2, Granted: 2, Opened: 1, Most: 1}
	checkReadings(t, []reading{
		{"by nothing", "", "tick 2; borrow; dialed 1 1; tick 7; tick 1", one, []int{0}, 0, 8, 400},
		{"by a return", "", "tick 2; borrow; dialed 1 1; tick 7; return 1 1; tick 1", one, []int{0}, 0, 7, 350},
		{"by a return that closes it", "life=5", "tick 2; borrow; dialed 1 1; tick 7; return 1 1; tick 1", closed, []int{0}, 0, 7, 350},
		{"by an invalidation", "", "tick 2; borrow; dialed 1 1; tick 7; invalid 1 1; tick 1", closed, []int{0}, 0, 7, 350},
		{"by a fault", "", "tick 2; borrow; dialed 1 1; tick 7; fault 1; tick 1", closed, []int{0}, 0, 7, 350},
		{"by a return while draining", "", "borrow; dialed 1 1; tick 5; drain; tick 3; return 1 1; tick 12", closed, []int{0}, 0, 8, 200},
		{"by the tick that passes DrainAt", "", "borrow; dialed 1 1; tick 5; drain; tick 49; tick 6; tick 40", closed, []int{0}, 0, 60, 300},
		{"by the tick that reaches DrainAt", "", "borrow; dialed 1 1; tick 5; drain; tick 50; tick 45", closed, []int{0}, 0, 55, 275},
		{"by nothing while draining", "", "borrow; dialed 1 1; tick 5; drain; tick 49", one, []int{0}, 0, 54, 500},
		{"by a shutdown", "", "borrow; dialed 1 1; tick 5; shut; tick 5", closed, []int{0}, 0, 5, 250},
		{"by a return after a leak", "leak=4", "borrow; dialed 1 1; tick 6; tick 6; return 1 1; tick 8", leak, []int{0}, 0, 12, 300},
		{"by nothing after a leak", "leak=4", "borrow; dialed 1 1; tick 6; tick 6", leak, []int{0}, 0, 12, 500},
		{"twice, by two holders", "", "borrow; dialed 1 1; tick 3; return 1 1; tick 10; borrow; tick 4; return 1 2; tick 3", two, []int{0, 0}, 0, 7, 175},
		{"once, not by the second holder", "", "borrow; dialed 1 1; tick 3; return 1 1; tick 10; borrow; tick 4", two, []int{0, 0}, 0, 7, 205},
		{"not by the return of another", "", "borrow; borrow; dialed 1 1; dialed 2 1; tick 3; return 2 2; tick 7",
			impl.Measure{Borrowed: 2, Granted: 2, Opened: 2, Most: 2}, []int{0, 0}, 0, 13, 650},
		{"two by one shutdown", "", "borrow; tick 1; borrow; dialed 1 1; tick 2; dialed 2 1; tick 4; shut; tick 1",
			impl.Measure{Borrowed: 2, Granted: 2, Opened: 2, Closed: 2, Most: 2}, []int{1, 2}, 0, 10, 625},
	})
}

func TestMetricsOfEvents(t *testing.T) {
	checkReadings(t, []reading{
		{"late", "max=1 wait=5", "borrow; dialed 1 1; borrow; tick 5; borrow 9; tick 5",
			impl.Measure{Borrowed: 3, Granted: 1, TimedOut: 1, Opened: 1, Most: 1}, []int{0}, 1, 10, 1000},
		{"late twice", "max=1 wait=5", "borrow; dialed 1 1; borrow; tick 2; borrow 9; tick 3; tick 6",
			impl.Measure{Borrowed: 3, Granted: 1, TimedOut: 2, Opened: 1, Most: 1}, []int{0}, 0, 11, 1000},
		{"cancelled", "", "borrow; tick 1; cancel 1; cancel 1; tick 1", impl.Measure{Borrowed: 1, Cancelled: 1, Most: 1}, nil, 0, 0, 0},
		{"cancelled twice", "", "borrow; borrow; borrow; cancel 3; cancel 1; tick 1", impl.Measure{Borrowed: 3, Cancelled: 2, Most: 2}, nil, 1, 0, 0},
		{"rejected by the breaker", "trips=1", "borrow; dialed 1 0; borrow; tick 1", impl.Measure{Borrowed: 2, Rejected: 1, Failed: 1, Most: 1}, nil, 1, 0, 0},
		{"rejected by draining", "", "borrow; drain; borrow; borrow; tick 1", impl.Measure{Borrowed: 3, Rejected: 3, Closed: 1, Most: 1}, nil, 0, 0, 0},
		{"failed", "", "borrow; fault 1; tick 2", impl.Measure{Borrowed: 1, Failed: 1, Most: 1}, nil, 1, 0, 0},
		{"failed twice", "", "borrow; dialed 1 0; tick 2; dialed 2 0; tick 4; dialed 3 1; tick 4",
			impl.Measure{Borrowed: 1, Granted: 1, Opened: 1, Failed: 2, Most: 1}, []int{6}, 0, 4, 200},
		{"closed by an eviction", "min=3 max=3", "tick 0; dialed 1 1; dialed 2 1; evict; tick 1", impl.Measure{Opened: 2, Closed: 2, Most: 3}, nil, 0, 0, 0},
		{"closed by age and idleness", "life=20 idle=5", "borrow; borrow; dialed 1 1; dialed 2 1; return 1 1; tick 5; tick 15; return 2 2",
			impl.Measure{Borrowed: 2, Granted: 2, Opened: 2, Closed: 2, Most: 2}, []int{0, 0}, 0, 20, 500},
		{"closed by a failed probe", "min=1 keep=5", "tick 0; dialed 1 1; tick 5; probed 1 0", impl.Measure{Opened: 1, Closed: 1, Most: 1}, nil, 0, 0, 0},
		{"closed by a resize", "min=3 max=3", "tick 0; dialed 1 1; dialed 2 1; dialed 3 1; resize 0 1; tick 1", impl.Measure{Opened: 3, Closed: 2, Most: 3}, nil, 0, 0, 0},
		{"closed on return after a resize", "", "borrow; borrow; dialed 1 1; dialed 2 1; tick 5; resize 0 1; return 2 2; tick 5",
			impl.Measure{Borrowed: 2, Granted: 2, Opened: 2, Closed: 1, Most: 2}, []int{0, 0}, 0, 15, 750},
		{"Max is that of the argument", "max=4", "borrow; dialed 1 1; resize 0 1; tick 10", impl.Measure{Borrowed: 1, Granted: 1, Opened: 1, Most: 1}, []int{0}, 0, 10, 250},
		{"more than Max is busy", "max=1", "resize 0 2; borrow; borrow; dialed 1 1; dialed 2 1; tick 10",
			impl.Measure{Borrowed: 2, Granted: 2, Opened: 2, Most: 2}, []int{0, 0}, 0, 20, 2000},
		{"leaks twice", "leak=4", "borrow; borrow; dialed 1 1; tick 3; dialed 2 1; tick 2; tick 2; tick 3",
			impl.Measure{Borrowed: 2, Granted: 2, Opened: 2, Leaks: 2, Most: 2}, []int{0, 3}, 0, 17, 850},
		{"the most is not the last", "", "borrow; borrow; dialed 1 1; dialed 2 1; fault 1; tick 1; borrow; borrow; fault 2",
			impl.Measure{Borrowed: 4, Granted: 2, Opened: 2, Closed: 2, Most: 2}, []int{0, 0}, 2, 1, 500},
	})
}

// TestMetricsOfFullLine has more borrowers than can wait, and one connection.
func TestMetricsOfFullLine(t *testing.T) {
	c := poolConfig(t, "max=1")
	ops := slices.Repeat([]impl.Op{{Kind: doBorrow}}, 62)
	want := metrics{measure: impl.Measure{Borrowed: 62, Rejected: 2, Most: 1}, ok: true, longest: -1, still: 60}
	if got := metricsOf(c, ops); !equalMetrics(got, want) {
		t.Errorf("of a full line: %+v, want %+v", got, want)
	}
	ops = append(ops, opsOf(t, "tick 29; dialed 1 1; tick 1")...)
	want = metrics{impl.Measure{Borrowed: 62, Granted: 1, TimedOut: 59, Rejected: 2, Opened: 1, Most: 1}, true, []int{29}, 29, 0, 1, 33}
	if got := metricsOf(c, ops); !equalMetrics(got, want) {
		t.Errorf("of a full line that expires: %+v, want %+v", got, want)
	}
}

func TestMetricsOfLongTimes(t *testing.T) {
	c := poolConfig(t, "max=12")
	ops := busyOps(12, 12, true)
	for len(ops) < impl.MaxOps {
		ops = append(ops, impl.Op{A: maxPause})
	}
	now := 176 * maxPause
	want := metrics{impl.Measure{Borrowed: 12, Granted: 12, Opened: 12, Most: 12}, true, repeated(0, 12), 0, 0, 12 * now, 1000}
	if got := metricsOf(c, ops); !equalMetrics(got, want) {
		t.Errorf("of a long time: %+v, want %+v", got, want)
	}
	ops = append(opsOf(t, "borrow 1000000; tick 999999; dialed 1 1"), slices.Repeat(opsOf(t, "tick 1000000"), 197)...)
	want = metrics{impl.Measure{Borrowed: 1, Granted: 1, Opened: 1, Most: 1}, true, []int{999999}, 999999, 0, 197 * maxPause, 82}
	if got := metricsOf(c, ops); !equalMetrics(got, want) {
		t.Errorf("of a long wait: %+v, want %+v", got, want)
	}
}

func TestMetricsOfManyOps(t *testing.T) {
	for _, script := range []string{"tick 1", "borrow", "borrow; dialed 1 1; tick 3; return 1 1", "cancel 7"} {
		c, part := poolConfig(t, "min=1"), opsOf(t, script)
		ops := slices.Repeat(part, impl.MaxOps)[:impl.MaxOps]
		checkMetrics(t, c, ops)
		if got := metricsOf(c, ops); !got.ok || got.still < 0 || got.held < 0 {
			t.Errorf("%q, %d times: %+v", script, len(ops), got)
		}
		checkSame(t, c, ops, slices.Clone(ops), true)
		for _, more := range []int{1, 2, 10000} {
			long := slices.Repeat(ops, 2+more/impl.MaxOps)[:impl.MaxOps+more]
			if got := metricsOf(c, long); !equalMetrics(got, noMetrics()) {
				t.Errorf("%q, %d operations: %+v", script, len(long), got)
			}
		}
	}
}

func TestMetricsOfInvalidConfigs(t *testing.T) {
	for _, c := range brokenConfigs() {
		for _, ops := range [][]impl.Op{nil, opsOf(t, "tick 1"), opsOf(t, "borrow; dialed 1 1; tick 3"), make([]impl.Op, impl.MaxOps), make([]impl.Op, impl.MaxOps+1)} {
			if got := metricsOf(c, ops); !equalMetrics(got, noMetrics()) {
				t.Errorf("%+v, %d operations: %+v", c, len(ops), got)
			}
			checkSame(t, c, ops, ops, false)
			checkSame(t, c, ops, nil, false)
		}
	}
}

// manyOps has n operations that differ, of which not all are accepted.
func manyOps(n int) []impl.Op {
	ops := make([]impl.Op, n)
	for k := range ops {
		ops[k] = impl.Op{Kind: k%16 - 1, A: k, B: -k, C: k * k}
	}
	return ops
}

// checkRepeat expects n copies of ops if they fit, and nothing otherwise.
func checkRepeat(t *testing.T, ops []impl.Op, n int, fits bool) {
	t.Helper()
	got, ok := impl.Repeat(ops, n)
	var want []impl.Op
	for copies := 0; fits && len(ops) > 0 && copies < n; copies++ {
		want = append(want, ops...)
	}
	if ok != fits || !slices.Equal(got, want) {
		t.Errorf("Repeat of %d operations, %d times: %d operations, %v, want %d, %v", len(ops), n, len(got), ok, len(want), fits)
	}
}

func TestRepeat(t *testing.T) {
	for length := range impl.MaxOps + 4 {
		ops := manyOps(length)
		for n := -2; n <= impl.MaxOps+2; n++ {
			checkRepeat(t, ops, n, n >= 0 && length <= 200 && length*n <= 200)
		}
		// The product of some of these and the length passes the greatest
		// integer, and of some it is small again.
		for _, n := range []int{1 << 31, 1 << 32, 1 << 58, 1 << 60, 1 << 61, 1 << 62, math.MaxInt / 2, math.MaxInt - 1, math.MaxInt} {
			checkRepeat(t, ops, n, length == 0)
			checkRepeat(t, ops, -n, false)
		}
		checkRepeat(t, ops, math.MinInt, false)
	}
	for _, row := range []struct {
		length, n int
		fits      bool
	}{
		{0, -1, false}, {0, 0, true}, {0, 1, true}, {0, math.MaxInt, true}, {1, 200, true}, {1, 201, false}, {3, 66, true}, {3, 67, false},
		{7, 28, true}, {7, 29, false}, {8, 25, true}, {8, 26, false}, {100, 2, true}, {101, 2, false}, {101, 1, true},
		{200, -1, false}, {200, 0, true}, {200, 1, true}, {200, 2, false}, {201, 0, false}, {201, 1, false}, {201, -1, false}, {5000, 0, false},
	} {
		checkRepeat(t, manyOps(row.length), row.n, row.fits)
	}
	if got, ok := impl.Repeat([]impl.Op{}, math.MaxInt); !ok || len(got) > 0 {
		t.Errorf("Repeat of an empty script = %v, %v", got, ok)
	}
}

func TestSameStories(t *testing.T) {
	c := poolConfig(t, "max=1")
	for _, row := range []struct {
		a, b string
		same bool
	}{
		{"", "", true},
		{"borrow; dialed 1 1; tick 3", "borrow; dialed 1 1; tick 3", true},
		{"", "tick 1; tick 2", true},                                             // nothing happens
		{"borrow; dialed 1 1", "borrow; tick 4; dialed 1 1; tick 1", true},       // at another time
		{"borrow; dialed 1 1", "borrow; dialed 2 1; dialed 1 1; cancel 1", true}, // with refused operations
		{"borrow; dialed 1 1", "borrow 7; dialed 1 1 9", true},                   // with other arguments
		{"borrow; dialed 1 1; borrow", "borrow; borrow; dialed 1 1", true},       // in another order
		{"borrow; dialed 1 1; invalid 1 1", "borrow; dialed 1 1; fault 1", true}, // by another operation
		{"borrow; dialed 1 1", "borrow; dialed 1 0", false},                      // as many events
		{"borrow", "", false},                                           // none on one side
		{"borrow; dialed 1 1", "borrow", false},                         // only the first ones
		{"borrow; dialed 1 1; return 1 1", "borrow; dialed 1 1", false}, // only the first ones
		{"borrow; borrow; dialed 1 1; return 1 1", "borrow; borrow; cancel 1; dialed 1 1; return 1 2", false},         // another ticket
		{"borrow; borrow; cancel 1; cancel 2", "borrow; borrow; cancel 2; cancel 1", false},                           // another order
		{"borrow; dialed 1 1; tick 5; return 1 1", "borrow; dialed 1 1; tick 5; return 1 1; rest", false},             // one more
		{"borrow; dialed 1 1; borrow; tick 30; return 1 1", "borrow; dialed 1 1; borrow; tick 29; return 1 1", false}, // late or granted
	} {
		a, b := opsOf(t, row.a), opsOf(t, row.b)
		checkSame(t, c, a, b, row.same)
		checkSame(t, c, a, a, true)
		checkSame(t, c, b, b, true)
	}
}

func TestStoriesThatFail(t *testing.T) {
	c := poolConfig(t, "")
	long := slices.Repeat([]impl.Op{{Kind: doTick}}, impl.MaxOps+1)
	most := long[:impl.MaxOps]
	checkSame(t, c, most, most, true)
	checkSame(t, c, most, nil, true)
	checkSame(t, c, long, most, false)
	checkSame(t, c, long, nil, false)
	checkSame(t, c, long, long, false)
	checkSame(t, c, long, slices.Repeat(long, 30), false)
}
