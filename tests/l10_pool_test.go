package tests

import (
	"fmt"
	"math"
	"reflect"
	"slices"
	"strconv"
	"strings"
	"testing"

	"loop.example/g00722/impl"
)

// plainly is the configuration of most stories: nothing is due by itself, no
// jitter, and the pool dials only for its tickets.
const plainly = "min=0 max=2 wait=30 life=0 idle=0 keep=0 leak=0 base=2 cap=32 jitter=0 window=60 trips=5 cool=20 drain=50"

// poolConfig has the fields of plainly except for those of text.
func poolConfig(t *testing.T, text string) impl.Config {
	t.Helper()
	c := impl.DefaultConfig()
	for _, field := range strings.Fields(plainly + " " + text) {
		name, value, _ := strings.Cut(field, "=")
		k := slices.IndexFunc(fieldRanges(), func(r fieldRange) bool { return r.name == name })
		n, err := strconv.Atoi(value)
		if k < 0 || err != nil {
			t.Fatalf("%q is no field", field)
		}
		c = withField(c, k, n)
	}
	return c
}

func opNames() []string {
	return []string{"tick", "borrow", "return", "invalid", "cancel", "dialed", "probed", "fault", "rest", "go", "resize", "evict", "drain", "shut"}
}

// opOf reads a name and up to three numbers: A, B and C.
func opOf(t *testing.T, text string) impl.Op {
	t.Helper()
	words := strings.Fields(text)
	o := impl.Op{Kind: slices.Index(opNames(), words[0])}
	for k, word := range words[1:] {
		n, err := strconv.Atoi(word)
		if err != nil || o.Kind < 0 {
			t.Fatalf("%q is no operation", text)
		}
		*[]*int{&o.A, &o.B, &o.C}[k] = n
	}
	return o
}

// opsOf reads operations that are separated by semicolons.
func opsOf(t *testing.T, text string) []impl.Op {
	t.Helper()
	var ops []impl.Op
	for part := range strings.SplitSeq(text, ";") {
		if part = strings.TrimSpace(part); part != "" {
			ops = append(ops, opOf(t, part))
		}
	}
	return ops
}

// eventText shows the fields that the Kind uses. An event that has another
// field is shown as it is, so that it equals no expected text.
func eventText(e impl.Event) string {
	names := []string{"dial C", "open C", "fail C", "grant T C", "back T C", "close T C", "probe C", "late T", "gone T", "no T", "leak T C", "mode C"}
	if e.Kind < 0 || e.Kind >= len(names) {
		return fmt.Sprint(e)
	}
	text := names[e.Kind]
	if e.Ticket != 0 && !strings.Contains(text, "T") || e.Conn != 0 && !strings.Contains(text, "C") {
		return fmt.Sprint(e)
	}
	return strings.NewReplacer("T", strconv.Itoa(e.Ticket), "C", strconv.Itoa(e.Conn)).Replace(text)
}

func logText(log []impl.Event) string {
	var words []string
	for _, e := range log {
		words = append(words, eventText(e))
	}
	return strings.Join(words, ", ")
}

// outcomeText is bad, or what the last of the operations tells.
func outcomeText(log []impl.Event, codes []int, before int) string {
	if codes[len(codes)-1] == impl.OpBad {
		return "bad" + logText(log[before:])
	}
	if len(log) == before {
		return "-"
	}
	return logText(log[before:])
}

// played runs the operations, which must be accepted as a whole.
func played(t *testing.T, c impl.Config, ops []impl.Op) (impl.Pool, []impl.Event, []int) {
	t.Helper()
	p, log, codes, ok := impl.PlayPool(c, ops)
	if !ok || len(codes) != len(ops) {
		t.Fatalf("PlayPool(%+v, %v) has %d codes, %v", c, ops, len(codes), ok)
	}
	return p, log, codes
}

// story tells what each operation does: one a line, a colon, and its events,
// separated by commas, or - if there are none, or bad if it is refused. A line
// without a colon has operations of which only the last one's pool matters.
// Every pool on the way is compared with the model. It returns the last pool.
func story(t *testing.T, fields string, text string) impl.Pool {
	t.Helper()
	c := poolConfig(t, fields)
	m := newPlainPool(c)
	var ops []impl.Op
	last, _ := impl.PoolNew(c)
	for line := range strings.Lines(text) {
		head, want, told := strings.Cut(strings.TrimSpace(line), ":")
		for _, o := range opsOf(t, head) {
			ops = append(ops, o)
			before := len(m.log)
			m.apply(o)
			p, log, codes := played(t, c, ops)
			got := outcomeText(log, codes, before)
			if told && got != strings.TrimSpace(want) {
				t.Errorf("%s: %q tells %q, want %q", fields, head, got, strings.TrimSpace(want))
			}
			if !slices.Equal(log, m.log) || !slices.Equal(codes, m.codes) || !equalPools(p, m.pool()) {
				t.Errorf("%s: after %q: %s, %s; the model has %s, %s", fields, head, logText(log), poolText(p), logText(m.log), poolText(m.pool()))
			}
			m.checkReaders(t, p)
			last = p
		}
	}
	return last
}

// tally is what the tests want to know of a pool beside its events.
type tally struct{ now, mode, dialing, idle, probing, held, waiting, wanted, next int }

func checkTally(t *testing.T, what string, p impl.Pool, want tally) {
	t.Helper()
	got := tally{
		p.Now, p.Mode, impl.CountState(p, dialing), impl.CountState(p, resting), impl.CountState(p, probing), impl.CountState(p, held),
		len(impl.LineList(p.Line)), impl.Wanted(p), impl.PoolNext(p),
	}
	if got != want {
		t.Errorf("%s: %+v, want %+v", what, got, want)
	}
}

func TestPoolConstants(t *testing.T) {
	if got := [...]int{impl.ModeRuns, impl.ModeRests, impl.ModeDrains, impl.ModeShut}; got != [...]int{0, 1, 2, 3} {
		t.Errorf("the modes are %v", got)
	}
	if impl.MaxOps != 200 || impl.OpDone != 0 || impl.OpBad != 1 {
		t.Errorf("MaxOps %d, OpDone %d, OpBad %d", impl.MaxOps, impl.OpDone, impl.OpBad)
	}
}

func TestNewPools(t *testing.T) {
	for k, f := range fieldRanges() {
		for _, value := range []int{f.least, f.most} {
			c := withField(roomyConfig(k), k, value)
			want := impl.Pool{Config: c, NextConn: 1, NextTicket: 1, Line: impl.NewLine()}
			p, ok := impl.PoolNew(c)
			if !ok || !equalPools(p, want) || !impl.PoolSafe(p) {
				t.Errorf("PoolNew(%+v) = %s, %v", c, poolText(p), ok)
			}
			if q, log, codes, ok := impl.PlayPool(c, nil); !ok || !equalPools(q, want) || len(log) > 0 || len(codes) > 0 {
				t.Errorf("PlayPool(%+v) of nothing = %s, %v, %v, %v", c, poolText(q), log, codes, ok)
			}
			checkTally(t, "new", p, tally{wanted: c.Min, next: -1})
		}
	}
}

func TestPoolsOfInvalidConfigs(t *testing.T) {
	for _, c := range brokenConfigs() {
		if p, ok := impl.PoolNew(c); ok || !reflect.DeepEqual(p, impl.Pool{}) {
			t.Errorf("PoolNew(%+v) = %+v, %v", c, p, ok)
		}
		for _, ops := range [][]impl.Op{nil, opsOf(t, "tick 1; borrow"), make([]impl.Op, impl.MaxOps+1)} {
			checkNoPlay(t, c, ops)
		}
	}
}

func checkNoPlay(t *testing.T, c impl.Config, ops []impl.Op) {
	t.Helper()
	if p, log, codes, ok := impl.PlayPool(c, ops); ok || !reflect.DeepEqual(p, impl.Pool{}) || len(log) > 0 || len(codes) > 0 {
		t.Errorf("PlayPool(%+v) of %d operations = %+v, %v, %v, %v", c, len(ops), p, log, codes, ok)
	}
}

func TestNumberOfOps(t *testing.T) {
	for _, o := range []impl.Op{{A: 1}, {A: maxPause}, {Kind: doBorrow}, {Kind: doEvict}, {Kind: opKinds}, {Kind: -1}} {
		ops := slices.Repeat([]impl.Op{o}, impl.MaxOps+1)
		c := poolConfig(t, "min=1")
		p, _, codes := played(t, c, ops[:impl.MaxOps])
		code := truth(o.Kind < 0 || o.Kind >= opKinds)
		if !slices.Equal(codes, repeated(code, impl.MaxOps)) || !impl.PoolSafe(p) {
			t.Errorf("%v: the codes are %v", o, codes)
		}
		if o.Kind == doTick && p.Now != impl.MaxOps*o.A || o.Kind == doBorrow && p.NextTicket != impl.MaxOps+1 {
			t.Errorf("%v: Now %d, NextTicket %d", o, p.Now, p.NextTicket)
		}
		checkNoPlay(t, c, ops)
		checkNoPlay(t, c, slices.Repeat(ops, 50))
	}
}

func TestUnknownOps(t *testing.T) {
	c := poolConfig(t, "min=1 max=3")
	for _, before := range []string{"", "tick 4; dialed 1 1; borrow", "borrow; rest", "drain"} {
		ops := opsOf(t, before)
		p, log, _ := played(t, c, ops)
		for _, kind := range []int{-1, -2, opKinds, opKinds + 1, 256, 1 << 32, math.MinInt, math.MaxInt} {
			for _, o := range []impl.Op{{Kind: kind}, {Kind: kind, A: 1, B: 1, C: 1}, {Kind: kind, A: -1, B: 2, C: 3}} {
				q, told, codes := played(t, c, append(slices.Clone(ops), o))
				if !equalPools(q, p) || !slices.Equal(told, log) || codes[len(ops)] != impl.OpBad {
					t.Errorf("%q and %v: %s, %v, %v", before, o, poolText(q), told, codes)
				}
			}
		}
	}
}

// TestRangesOfTickAndBorrow has both ends of the range of A and what is beyond.
func TestRangesOfTickAndBorrow(t *testing.T) {
	p := story(t, "min=1", `
		tick -1 : bad
		tick 1000001 : bad
		tick 0 : dial 1
		tick 1000000 : -
		tick 1000000 : -
		tick 1 : -
		tick -9223372036854775808 : bad
		tick 9223372036854775807 : bad
		borrow -1 : bad
		borrow 1000001 : bad
		borrow -9223372036854775808 : bad
		borrow 9223372036854775807 : bad
		borrow 0 : -
		borrow 0 : dial 2`)
	checkTally(t, "ranges", p, tally{now: 2000001, dialing: 2, waiting: 2, wanted: 2, next: 2000031})
	p = story(t, "max=1", "borrow 1000000 : dial 1\n borrow 1 : -\n borrow 7 : -\n borrow : -")
	if got := []int{impl.DueOf(p.Line.Heap, 1), impl.DueOf(p.Line.Heap, 2), impl.DueOf(p.Line.Heap, 3), impl.DueOf(p.Line.Heap, 4)}; !slices.Equal(got, []int{1000000, 1, 7, 30}) {
		t.Errorf("the deadlines are %v", got)
	}
}

// The stages that lead to a pool of each mode. In the first one, 1 is held by
// the ticket 1, 2 is idle, 3 is being dialed and 4 is being probed.
const (
	stageFields = "min=4 max=4 keep=10"
	stageRuns   = "tick 0; dialed 1 1; borrow; dialed 4 1; tick 10; dialed 2 1"
	stageWaits  = stageRuns + "; borrow; borrow; borrow 5"    // 2 is held by 2, and 3 and 4 wait until 40 and 15
	stageRests  = stageRuns + "; rest; borrow; borrow 5"      // 2 and 3 wait until 40 and 15 although 2 is idle
	stageDrains = stageRests + "; drain"                      // 1 is still held
	stageShut   = stageDrains + "; return 1 1; borrow; evict" // there is nothing
)

// TestEveryOpInEveryMode has the events of each operation while the pool runs
// with an idle connection, runs with waiting tickets, rests, drains and is shut.
func TestEveryOpInEveryMode(t *testing.T) {
	rows := []struct{ op, runs, waits, rests, drains, shut string }{
		{"tick", "-", "-", "-", "-", "-"},
		{"tick 4", "-", "-", "-", "-", "-"},
		{"tick 10", "probe 2", "late 4", "late 3, probe 2", "-", "-"},
		{"tick 49", "probe 2", "late 4, late 3", "late 3, late 2, probe 2", "-", "-"},
		{"tick 50", "probe 2", "late 4, late 3", "late 3, late 2, probe 2", "close 1 1, mode 3", "-"},
		{"tick 1000000", "probe 2", "late 4, late 3", "late 3, late 2, probe 2", "close 1 1, mode 3", "-"},
		{"tick -1", "bad", "bad", "bad", "bad", "bad"},
		{"tick 1000001", "bad", "bad", "bad", "bad", "bad"},
		{"borrow", "grant 2 2", "-", "-", "no 4", "no 5"},
		{"borrow 1000000", "grant 2 2", "-", "-", "no 4", "no 5"},
		{"borrow -1", "bad", "bad", "bad", "bad", "bad"},
		{"borrow 1000001", "bad", "bad", "bad", "bad", "bad"},
		{"return 1 1", "back 1 1", "back 1 1, grant 3 1", "back 1 1", "back 1 1, close 0 1, mode 3", "bad"},
		{"return 1 2", "bad", "bad", "bad", "bad", "bad"},
		{"return 1 0", "bad", "bad", "bad", "bad", "bad"},
		{"return 2 1", "bad", "bad", "bad", "bad", "bad"},
		{"return 2 0", "bad", "bad", "bad", "bad", "bad"},
		{"return 3 0", "bad", "bad", "bad", "bad", "bad"},
		{"return 4 0", "bad", "bad", "bad", "bad", "bad"},
		{"return 0 0", "bad", "bad", "bad", "bad", "bad"},
		{"return 5 0", "bad", "bad", "bad", "bad", "bad"},
		{"return -1 1", "bad", "bad", "bad", "bad", "bad"},
		{"invalid 1 1", "close 1 1, dial 5", "close 1 1, dial 5", "close 1 1", "close 1 1, mode 3", "bad"},
		{"invalid 1 2", "bad", "bad", "bad", "bad", "bad"},
		{"invalid 1 0", "bad", "bad", "bad", "bad", "bad"},
		{"invalid 2 0", "bad", "bad", "bad", "bad", "bad"},
		{"invalid 3 0", "bad", "bad", "bad", "bad", "bad"},
		{"invalid 4 0", "bad", "bad", "bad", "bad", "bad"},
		{"invalid 0 0", "bad", "bad", "bad", "bad", "bad"},
		{"invalid 5 0", "bad", "bad", "bad", "bad", "bad"},
		{"cancel 3", "bad", "gone 3", "gone 3", "bad", "bad"},
		{"cancel 4", "bad", "gone 4", "bad", "bad", "bad"},
		{"cancel 1", "bad", "bad", "bad", "bad", "bad"},
		{"cancel 0", "bad", "bad", "bad", "bad", "bad"},
		{"cancel 5", "bad", "bad", "bad", "bad", "bad"},
		{"dialed 3 1", "open 3", "open 3, grant 3 3", "open 3", "bad", "bad"},
		{"dialed 3 0", "fail 3", "fail 3", "fail 3", "bad", "bad"},
		{"dialed 3 2", "bad", "bad", "bad", "bad", "bad"},
		{"dialed 3 -1", "bad", "bad", "bad", "bad", "bad"},
		{"dialed 1 1", "bad", "bad", "bad", "bad", "bad"},
		{"dialed 2 1", "bad", "bad", "bad", "bad", "bad"},
		{"dialed 4 0", "bad", "bad", "bad", "bad", "bad"},
		{"dialed 0 0", "bad", "bad", "bad", "bad", "bad"},
		{"dialed 5 0", "bad", "bad", "bad", "bad", "bad"},
		{"probed 4 1", "-", "grant 3 4", "-", "bad", "bad"},
		{"probed 4 0", "close 0 4, dial 5", "close 0 4, dial 5", "close 0 4", "bad", "bad"},
		{"probed 4 2", "bad", "bad", "bad", "bad", "bad"},
		{"probed 4 -1", "bad", "bad", "bad", "bad", "bad"},
		{"probed 1 1", "bad", "bad", "bad", "bad", "bad"},
		{"probed 2 0", "bad", "bad", "bad", "bad", "bad"},
		{"probed 3 1", "bad", "bad", "bad", "bad", "bad"},
		{"probed 0 0", "bad", "bad", "bad", "bad", "bad"},
		{"probed 5 1", "bad", "bad", "bad", "bad", "bad"},
		{"fault 1", "close 1 1, dial 5", "close 1 1, dial 5", "close 1 1", "close 1 1, mode 3", "bad"},
		{"fault 2", "close 0 2, dial 5", "close 2 2, dial 5", "close 0 2", "bad", "bad"},
		{"fault 3", "fail 3", "fail 3", "fail 3", "bad", "bad"},
		{"fault 4", "close 0 4, dial 5", "close 0 4, dial 5", "close 0 4", "bad", "bad"},
		{"fault 0", "bad", "bad", "bad", "bad", "bad"},
		{"fault 5", "bad", "bad", "bad", "bad", "bad"},
		{"fault -1", "bad", "bad", "bad", "bad", "bad"},
		{"rest", "mode 1", "mode 1", "bad", "bad", "bad"},
		{"go", "bad", "bad", "mode 0, grant 2 2", "bad", "bad"},
		{"resize 0 1", "close 0 2", "-", "close 0 2", "-", "-"},
		{"resize 4 4", "-", "-", "-", "-", "-"},
		{"resize 6 7", "dial 5, dial 6", "dial 5, dial 6", "-", "-", "-"},
		{"resize 5 4", "bad", "bad", "bad", "bad", "bad"},
		{"resize -1 4", "bad", "bad", "bad", "bad", "bad"},
		{"resize 0 0", "bad", "bad", "bad", "bad", "bad"},
		{"resize 0 13", "bad", "bad", "bad", "bad", "bad"},
		{"evict", "close 0 2, dial 5", "-", "close 0 2", "-", "-"},
		{"drain", "mode 2, close 0 2, close 0 3, close 0 4", "mode 2, no 3, no 4, close 0 3, close 0 4", "mode 2, no 2, no 3, close 0 2, close 0 3, close 0 4", "bad", "bad"},
		{"shut", "mode 3, close 1 1, close 0 2, close 0 3, close 0 4", "mode 3, no 3, no 4, close 1 1, close 2 2, close 0 3, close 0 4", "mode 3, no 2, no 3, close 1 1, close 0 2, close 0 3, close 0 4", "mode 3, close 1 1", "bad"},
	}
	for _, row := range rows {
		for k, stage := range []string{stageRuns, stageWaits, stageRests, stageDrains, stageShut} {
			want := []string{row.runs, row.waits, row.rests, row.drains, row.shut}[k]
			p := story(t, stageFields, stage+"\n"+row.op+" : "+want)
			if before := story(t, stageFields, stage); want == "bad" && !equalPools(p, before) {
				t.Errorf("%s is refused after %q and changes %s to %s", row.op, stage, poolText(before), poolText(p))
			}
		}
	}
}

func TestStages(t *testing.T) {
	checkTally(t, "runs", story(t, stageFields, stageRuns), tally{now: 10, dialing: 1, idle: 1, probing: 1, held: 1, wanted: 4, next: 20})
	checkTally(t, "waits", story(t, stageFields, stageWaits), tally{now: 10, dialing: 1, probing: 1, held: 2, waiting: 2, wanted: 4, next: 15})
	checkTally(t, "rests", story(t, stageFields, stageRests), tally{now: 10, mode: 1, dialing: 1, idle: 1, probing: 1, held: 1, waiting: 2, wanted: 4, next: 15})
	checkTally(t, "drains", story(t, stageFields, stageDrains), tally{now: 10, mode: 2, held: 1, wanted: 4, next: 60})
	checkTally(t, "shut", story(t, stageFields, stageShut), tally{now: 10, mode: 3, wanted: 4, next: -1})
}

// TestFieldsThatAnOpDoesNotUse sets them, which must not matter.
func TestFieldsThatAnOpDoesNotUse(t *testing.T) {
	c := poolConfig(t, stageFields)
	unused := map[string]string{
		"tick 10": "BC", "borrow 5": "BC", "return 1 1": "C", "invalid 1 1": "C", "cancel 3": "BC", "dialed 3 1": "C", "probed 4 1": "C",
		"probed 4 0": "C", "fault 3": "B", "fault 2": "BC", "rest": "ABC", "go": "ABC", "resize 0 2": "C", "evict": "ABC", "drain": "ABC", "shut": "ABC",
	}
	for text, fields := range unused {
		for _, stage := range []string{stageRuns, stageWaits, stageRests, stageDrains, stageShut} {
			ops := append(opsOf(t, stage), opOf(t, text))
			p, log, codes := played(t, c, ops)
			for _, x := range []int{-1, 1, 7, math.MinInt, math.MaxInt} {
				last := &ops[len(ops)-1]
				*last = opOf(t, text)
				for _, field := range fields {
					*map[rune]*int{'A': &last.A, 'B': &last.B, 'C': &last.C}[field] = x
				}
				q, again, told := played(t, c, ops)
				if !equalPools(p, q) || !slices.Equal(log, again) || !slices.Equal(codes, told) {
					t.Errorf("%v differs from %q: %s, %s", *last, text, logText(again), poolText(q))
				}
			}
		}
	}
}

func TestTicksExpireFirst(t *testing.T) {
	// The connection would be dialed again at 2, but its ticket is late by then.
	story(t, "max=1", "borrow 2 : dial 1\n dialed 1 0 : fail 1\n tick 1 : -\n tick 1 : late 1\n tick 30 : -")
	story(t, "max=1", "borrow 3 : dial 1\n dialed 1 0 : fail 1\n tick 1 : -\n tick 1 : dial 2\n tick 1 : late 1\n dialed 2 1 : open 2")
	story(t, "max=2 leak=4 keep=4", `
		borrow; dialed 1 1
		borrow 4 : dial 2
		borrow 3 : -
		dialed 2 0 0 : fail 2
		tick 4 : late 3, late 2, leak 1 1`)
	// The deadline decides, and not the order of arrival; equal ones keep it.
	story(t, "max=1", `
		borrow 9 : dial 1
		borrow 7 : -
		borrow 8 : -
		borrow 7 : -
		tick 6 : -
		tick 1 : late 2, late 4
		tick 2 : late 3, late 1`)
}

func TestTicksEndDrainingBeforeLeaks(t *testing.T) {
	story(t, "drain=50 leak=50", `
		borrow; dialed 1 1
		drain : mode 2
		tick 49 : -
		tick 1 : close 1 1, mode 3
		tick 1 : -`)
	story(t, "drain=50 leak=49", `
		borrow; dialed 1 1
		drain : mode 2
		tick 49 : leak 1 1
		tick 1 : close 1 1, mode 3`)
	story(t, "drain=50 leak=10", "borrow; dialed 1 1\n drain : mode 2\n tick 50 : close 1 1, mode 3")
}

func TestTicksAttendInOrderOfId(t *testing.T) {
	// 1 is idle since 4, 2 is held since 0, 3 is idle since 0 and 4 since 2.
	stage := "tick 0; dialed 1 1; dialed 2 1; dialed 3 1; borrow; borrow; tick 2; dialed 4 1; tick 2; return 1 1"
	rows := [][2]string{
		{"min=4 max=4 life=20 leak=20", "close 0 1, leak 2 2, close 0 3, dial 5, dial 6"},
		{"min=4 max=4 life=18 leak=20", "close 0 1, leak 2 2, close 0 3, close 0 4, dial 5, dial 6, dial 7"},
		{"min=4 max=4 keep=16 leak=16", "probe 1, leak 2 2, probe 3, probe 4"},
		{"min=4 max=4 keep=17 leak=21", "probe 3, probe 4"},
		{"min=4 max=4 idle=16 keep=16", "-"}, // with Min connections, what is due is the end and not the probe
		{"min=4 max=4 idle=20 keep=16", "probe 1, probe 4"},
		{"min=4 max=4 idle=18 keep=16", "probe 1"},
		{"min=4 max=4 life=18 idle=16 keep=16 leak=20", "close 0 1, leak 2 2, close 0 3, close 0 4, dial 5, dial 6, dial 7"},
		{"min=4 max=4 life=20 idle=18 keep=16 leak=20", "close 0 1, leak 2 2, close 0 3, dial 5, dial 6"},
	}
	for _, row := range rows {
		story(t, row[0], stage+"\n tick 16 : "+row[1])
	}
}

// TestTicksAttendBeforeTheSurplus has three connections, of which two are idle,
// where only one may be.
func TestTicksAttendBeforeTheSurplus(t *testing.T) {
	stage := "tick 0; resize 0 1; dialed 2 1; dialed 3 1"
	rows := [][3]string{
		{"min=3 max=3", "tick 0", "close 0 3, close 0 2"},
		{"min=3 max=3 keep=10", "tick 9", "close 0 3, close 0 2"},
		{"min=3 max=3 keep=10", "tick 10", "probe 2, probe 3"},
		{"min=3 max=3 idle=10", "tick 9", "close 0 3, close 0 2"},
		{"min=3 max=3 idle=10", "tick 10", "close 0 2, close 0 3"},
		{"min=3 max=3 life=10", "tick 10", "close 0 2, close 0 3"},
	}
	for _, row := range rows {
		story(t, row[0], stage+"\n"+row[1]+" : "+row[2])
	}
	// 1 was opened at 0 and answers its probe at 10, when 3 is opened.
	stage = "tick 0; dialed 1 1; tick 10; resize 0 1; probed 1 1; dialed 3 1"
	story(t, "min=3 max=3 keep=10 life=15", stage+"\n tick 4 : close 0 3, close 0 1\n dialed 2 1 : open 2\n tick 0 : -")
	story(t, "min=3 max=3 keep=10 life=15", stage+"\n tick 5 : close 0 1, close 0 3\n dialed 2 1 : open 2\n tick 0 : -")
	story(t, "min=3 max=3 keep=10 life=15", stage+"\n tick 10 : close 0 1, probe 3\n tick 0 : -\n probed 3 1 : -\n tick 0 : close 0 3")
}

func TestTicksFillLast(t *testing.T) {
	story(t, "min=1 life=10", "tick 0 : dial 1\n dialed 1 1 : open 1\n tick 9 : -\n tick 1 : close 0 1, dial 2")
	story(t, "min=2 life=10", `
		tick 0 : dial 1, dial 2
		dialed 2 1 : open 2
		borrow : grant 1 2
		borrow 5 : -
		dialed 1 0 : fail 1
		tick 5 : late 2, dial 3`)
	// A tick of 0 fills a new pool.
	story(t, "min=3 max=5", "tick 0 : dial 1, dial 2, dial 3\n tick 0 : -")
	story(t, "min=0 max=5", "tick 0 : -")
}

func TestIdleConnsBeyondMin(t *testing.T) {
	// Three connections are idle since 0; two are to stay.
	stage := "tick 0; dialed 1 1; dialed 2 1; borrow; borrow; borrow; dialed 3 1; return 1 1; return 2 2; return 3 3\n"
	story(t, "min=2 max=3 idle=10", stage+"tick 9 : -\n tick 1 : close 0 1\n tick 1 : -\n tick 1000 : -")
	story(t, "min=2 max=3 idle=10", stage+"resize 3 3 : -\n tick 10 : -\n resize 1 3 : -\n tick 0 : close 0 1, close 0 2")
	story(t, "min=2 max=3 idle=10", stage+"resize 0 3 : -\n tick 10 : close 0 1, close 0 2, close 0 3")
	// Connections that are not idle count as well.
	story(t, "min=2 max=3 idle=10", stage+"borrow : grant 4 1\n tick 10 : close 0 2\n tick 1 : -\n return 1 4 : back 4 1\n tick 9 : -")
	story(t, "min=1 max=3 idle=10", "tick 0; dialed 1 1\n tick 10 : -\n borrow : grant 1 1\n borrow : dial 2\n return 1 1 : back 1 1, grant 2 1")
	// The one that begins to be idle later is not due.
	story(t, "min=0 max=3 idle=10", "borrow; borrow; dialed 1 1; dialed 2 1; return 1 1; tick 1; return 2 2\n tick 9 : close 0 1\n tick 1 : close 0 2")
}

func TestLeaksAreToldOnce(t *testing.T) {
	p := story(t, "leak=10", "borrow; dialed 1 1\n tick 9 : -\n tick 1 : leak 1 1\n tick 1 : -\n tick 100 : -\n rest : mode 1\n tick 10 : -")
	if c := p.Conns[0]; c != (impl.Conn{Id: 1, State: held, Ticket: 1, Told: true}) {
		t.Errorf("told: %+v", c)
	}
	story(t, "leak=10", "borrow; dialed 1 1; tick 10\n return 1 1 : back 1 1\n borrow : grant 2 1\n tick 9 : -\n tick 1 : leak 2 1\n invalid 1 2 : close 2 1")
}

func TestProbes(t *testing.T) {
	story(t, "min=1 keep=10", "tick 0; dialed 1 1\n tick 10 : probe 1\n borrow : -\n borrow : dial 2\n probed 1 1 : grant 1 1\n tick 30 : late 2")
	story(t, "min=1 keep=10", "tick 0; dialed 1 1; tick 10\n probed 1 1 : -\n tick 9 : -\n tick 1 : probe 1\n tick 50 : -\n probed 1 0 : close 0 1, dial 2")
	story(t, "min=1 keep=10", "tick 0; dialed 1 1; tick 10\n borrow : -\n probed 1 0 : close 0 1, dial 2\n dialed 2 1 : open 2, grant 1 2")
	story(t, "min=1 keep=10", "tick 0; dialed 1 1; tick 10\n borrow : -\n fault 1 : close 0 1, dial 2")
	story(t, "min=1 keep=10", "tick 0; dialed 1 1; tick 10\n drain : mode 2, close 0 1, mode 3\n probed 1 1 : bad\n probed 1 0 : bad")
	// One that answers while there are too many stays until the next tick.
	story(t, "min=2 max=2 keep=10", "tick 0; dialed 1 1; dialed 2 1\n tick 10 : probe 1, probe 2\n resize 0 1 : -\n probed 1 1 : -\n tick 0 : close 0 1\n probed 2 1 : -\n tick 0 : -")
}

func TestReturns(t *testing.T) {
	story(t, "life=10", "borrow; dialed 1 1; tick 9\n return 1 1 : back 1 1\n borrow : grant 2 1\n tick 1 : -\n return 1 2 : back 2 1, close 0 1")
	story(t, "life=10", "borrow; dialed 1 1; tick 9\n return 1 1 : back 1 1\n tick 1 : close 0 1")
	story(t, "life=10 max=1", "borrow; dialed 1 1; tick 10\n borrow : -\n return 1 1 : back 1 1, close 0 1, dial 2")
	// Life begins when the connection was opened.
	story(t, "life=10", "borrow; tick 5; dialed 1 1; tick 9\n return 1 1 : back 1 1")
	story(t, "life=10", "borrow; tick 5; dialed 1 1; tick 10\n return 1 1 : back 1 1, close 0 1")
	story(t, "life=0", "borrow; dialed 1 1; tick 1000000\n return 1 1 : back 1 1\n return 1 1 : bad")
	story(t, "", "borrow; dialed 1 1; borrow; dialed 2 1; resize 0 1\n return 1 1 : back 1 1, close 0 1\n return 2 2 : back 2 2\n tick 10 : -")
	// What is returned is lent again at once, to the first ticket.
	story(t, "max=1", "borrow; borrow; borrow; dialed 1 1\n return 1 1 : back 1 1, grant 2 1\n return 1 1 : bad\n return 1 3 : bad\n return 1 2 : back 2 1, grant 3 1")
	story(t, "max=1", "borrow; borrow; borrow; dialed 1 1; cancel 2\n return 1 1 : back 1 1, grant 3 1")
	story(t, "max=1", "borrow; borrow; dialed 1 1\n invalid 1 2 : bad\n invalid 1 1 : close 1 1, dial 2\n invalid 1 1 : bad\n return 1 1 : bad\n dialed 2 1 : open 2, grant 2 2")
}

func TestServeOrder(t *testing.T) {
	// The first ticket gets the smallest Id, whichever was opened first.
	story(t, "max=3", "borrow; borrow; borrow\n dialed 3 1 : open 3, grant 1 3\n dialed 1 1 : open 1, grant 2 1\n dialed 2 1 : open 2, grant 3 2")
	story(t, "min=3 max=3", "tick 0; dialed 3 1; dialed 2 1\n borrow : grant 1 2\n dialed 1 1 : open 1\n borrow : grant 2 1\n borrow : grant 3 3\n borrow : -")
	story(t, "min=3 max=3", `
		tick 0; dialed 3 1; dialed 2 1; rest
		borrow : -
		borrow : -
		borrow 3 : -
		borrow : -
		dialed 1 1 : open 1
		cancel 2 : gone 2
		go : mode 0, grant 1 1, grant 3 2, grant 4 3`)
	// Those of the line beyond the idle connections go on waiting.
	story(t, "min=1 max=3", "tick 0; dialed 1 1; rest; borrow; borrow; borrow; borrow\n go : mode 0, grant 1 1, dial 2, dial 3")
}

func TestRests(t *testing.T) {
	story(t, "min=1 life=10", "tick 0; dialed 1 1\n rest : mode 1\n rest : bad\n tick 10 : close 0 1\n tick 10 : -\n go : mode 0, dial 2\n go : bad")
	story(t, "max=1", "rest : mode 1\n borrow 5 : -\n tick 4 : -\n tick 1 : late 1\n borrow : -\n evict : -\n resize 2 2 : -\n go : mode 0, dial 1, dial 2")
	story(t, "max=1", "borrow; rest\n dialed 1 0 : fail 1\n tick 2 : -\n tick 5 : -\n go : mode 0, dial 2")
	story(t, "max=1", "borrow; rest\n dialed 1 0 : fail 1\n tick 1 : -\n go : mode 0\n tick 1 : dial 2")
	story(t, "max=1", "borrow; rest\n dialed 1 1 : open 1\n go : mode 0, grant 1 1")
	story(t, "max=1", "borrow; dialed 1 1; rest\n borrow : -\n return 1 1 : back 1 1\n borrow : -\n cancel 2 : gone 2\n go : mode 0, grant 3 1")
	story(t, "max=2 keep=10 idle=30", "borrow; dialed 1 1; return 1 1; rest\n tick 10 : probe 1\n probed 1 1 : -\n tick 30 : close 0 1")
}
