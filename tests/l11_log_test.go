package tests

import (
	"fmt"
	"math"
	"slices"
	"strconv"
	"strings"
	"testing"

	"loop.example/g00722/impl"
)

// eventNames has the index of a Kind.
func eventNames() []string {
	return []string{"dial", "open", "fail", "grant", "back", "close", "probe", "late", "gone", "no", "leak", "mode"}
}

// eventOf reads a name and the fields that the Kind uses: the Ticket, if there
// is one, before the Conn.
func eventOf(t *testing.T, text string) impl.Event {
	t.Helper()
	words := strings.Fields(text)
	e := impl.Event{Kind: slices.Index(eventNames(), words[0])}
	var fields []*int
	switch e.Kind {
	case tellGrant, tellBack, tellClose, tellLeak:
		fields = []*int{&e.Ticket, &e.Conn}
	case tellLate, tellGone, tellNo:
		fields = []*int{&e.Ticket}
	default:
		fields = []*int{&e.Conn}
	}
	if e.Kind < 0 || len(words) != len(fields)+1 {
		t.Fatalf("%q is no event", text)
	}
	for k, word := range words[1:] {
		n, err := strconv.Atoi(word)
		if err != nil {
			t.Fatalf("%q is no event", text)
		}
		*fields[k] = n
	}
	return e
}

// logOf reads events that are separated by commas.
func logOf(t *testing.T, text string) []impl.Event {
	t.Helper()
	var log []impl.Event
	for part := range strings.SplitSeq(text, ",") {
		if strings.TrimSpace(part) != "" {
			log = append(log, eventOf(t, part))
		}
	}
	return log
}

// verdict is a log with what one predicate says of it.
type verdict struct {
	text string
	want bool
}

func checkVerdicts(t *testing.T, name string, holds func([]impl.Event) bool, list []verdict) {
	t.Helper()
	for _, v := range list {
		log := logOf(t, v.text)
		if !impl.LogOk(log) {
			t.Errorf("LogOk of %q is false", v.text)
		}
		if got := holds(log); got != v.want {
			t.Errorf("%s of %q: %v, want %v", name, v.text, got, v.want)
		}
		checkLog(t, log)
	}
}

func TestLogConstants(t *testing.T) {
	if impl.MaxLog != 2000 {
		t.Errorf("MaxLog = %d", impl.MaxLog)
	}
}

func TestEmptyLogs(t *testing.T) {
	for _, log := range [][]impl.Event{nil, {}} {
		for _, p := range predicates() {
			if !p.holds(log) {
				t.Errorf("%s of an empty log is false", p.name)
			}
		}
		checkLog(t, log)
		if live, most, answer := impl.LiveAfter(log), impl.MostLive(log), impl.AnswerOf(log, 1); len(live) != 0 || most != 0 || answer != -1 {
			t.Errorf("an empty log: %v, %d, %d", live, most, answer)
		}
		for _, n := range []int{math.MinInt, -1, 0, 1, math.MaxInt} {
			if got := impl.HoldersAt(log, n); len(got) != 0 {
				t.Errorf("HoldersAt(%d) of an empty log = %v", n, got)
			}
		}
	}
}

// longLog is a log of n events that a pool could have: each connection is
// dialed, opened, granted and closed.
func longLog(n int) []impl.Event {
	var log []impl.Event
	for k := 1; len(log) < n; k++ {
		log = append(log, impl.Event{Conn: k}, impl.Event{Kind: tellOpen, Conn: k}, impl.Event{Kind: tellGrant, Ticket: k, Conn: k}, impl.Event{Kind: tellClose, Ticket: k, Conn: k})
	}
	return log[:n]
}

func TestLengthsOfLogs(t *testing.T) {
	for _, n := range []int{impl.MaxLog - 1, impl.MaxLog} {
		log := longLog(n)
		for _, p := range predicates() {
			if !p.holds(log) {
				t.Errorf("%s of %d events is false", p.name, n)
			}
		}
		if got, want := impl.LiveAfter(log), plainLiveAfter(log); !slices.Equal(got, want) {
			t.Errorf("LiveAfter of %d events differs", n)
		}
		if most, answer := impl.MostLive(log), impl.AnswerOf(log, impl.MaxLog/4); most != 1 || answer != tellGrant {
			t.Errorf("%d events: MostLive %d, AnswerOf %d", n, most, answer)
		}
		if got := impl.HoldersAt(log, impl.MaxLog-1); !slices.Equal(got, []int{impl.MaxLog / 4}) {
			t.Errorf("HoldersAt of %d events = %v", n, got)
		}
	}
	for _, n := range []int{impl.MaxLog + 1, impl.MaxLog + 2, 2*impl.MaxLog + 1} {
		checkRefusedLog(t, longLog(n))
		checkRefusedLog(t, slices.Repeat([]impl.Event{{Conn: 1}}, n))
	}
}

// TestManyLive has as many connections as a log can dial.
func TestManyLive(t *testing.T) {
	var log []impl.Event
	for k := range impl.MaxLog {
		log = append(log, impl.Event{Conn: k + 1})
	}
	if !impl.FreshConns(log) || impl.MostLive(log) != impl.MaxLog || impl.LiveAfter(log)[999] != 1000 {
		t.Error("many dials")
	}
	for k := range impl.MaxLog {
		log[k] = impl.Event{Kind: tellGrant, Ticket: impl.MaxLog - k, Conn: k + 1}
	}
	tickets := impl.HoldersAt(log, impl.MaxLog)
	if len(tickets) != impl.MaxLog || !slices.IsSorted(tickets) || impl.InOrder(log) || !impl.OneHolder(log) || !impl.AnsweredOnce(log) {
		t.Error("many grants")
	}
	slices.Reverse(log)
	if !impl.InOrder(log) {
		t.Error("many grants in order")
	}
}

// edgeEvents has events of every Kind with every combination of edge numbers.
func edgeEvents() []impl.Event {
	numbers := []int{-1, 0, 1, 2, 3, 4, 5, top - 1, top, top + 1, math.MinInt, math.MaxInt}
	var list []impl.Event
	for _, kind := range []int{-2, -1, 0, 1, 2, 3, 4, 5, 6, 7, 8, 9, 10, 11, 12, 13, 256, 1 << 32, math.MinInt, math.MaxInt} {
		for _, ticket := range numbers {
			for _, conn := range numbers {
				list = append(list, impl.Event{Kind: kind, Ticket: ticket, Conn: conn})
			}
		}
	}
	return list
}

func TestFormOfEvents(t *testing.T) {
	good := logOf(t, "dial 1, open 1, grant 1 1, back 1 1, late 2")
	for _, e := range edgeEvents() {
		if got, want := impl.LogOk([]impl.Event{e}), plainForm(e); got != want {
			t.Errorf("LogOk of %+v: %v", e, got)
		}
		if plainForm(e) {
			continue
		}
		// One such event at any place makes the log invalid for each function.
		for _, place := range []int{0, 2, len(good)} {
			checkRefusedLog(t, slices.Insert(slices.Clone(good), place, e))
		}
	}
}

// TestFieldsOfKinds spells out for each Kind what the fields may be.
func TestFieldsOfKinds(t *testing.T) {
	type span struct{ least, most int }
	id, idOrNone, none, mode := span{1, top}, span{0, top}, span{0, 0}, span{0, 3}
	spans := [12][2]span{
		{none, id}, {none, id}, {none, id}, {id, id}, {id, id}, {idOrNone, id}, {none, id}, {id, none}, {id, none}, {id, none}, {id, id}, {none, mode},
	}
	for kind, row := range spans {
		good := impl.Event{Kind: kind, Ticket: row[0].most, Conn: row[1].most}
		for k, s := range row {
			for n, want := range map[int]bool{s.least - 1: false, s.least: true, s.most: true, s.most + 1: false} {
				e := good
				*[]*int{&e.Ticket, &e.Conn}[k] = n
				if got := impl.LogOk([]impl.Event{e}); got != want {
					t.Errorf("LogOk of %+v: %v", e, got)
				}
			}
		}
	}
	for _, kind := range []int{-1, 12} {
		for _, n := range []int{0, 1} {
			checkRefusedLog(t, []impl.Event{{Kind: kind, Ticket: n, Conn: n}})
		}
	}
}

func TestOneHolder(t *testing.T) {
	checkVerdicts(t, "OneHolder", impl.OneHolder, []verdict{
		{"grant 1 1", true},
		{"grant 1 1, back 1 1", true},
		{"grant 1 1, back 1 1, grant 2 1", true},
		{"grant 1 1, back 1 1, grant 1 1", true}, // AnsweredOnce rules this out
		{"grant 1 1, grant 1 2, back 1 2, back 1 1", true},
		{"grant 2 1, grant 1 2, close 2 1, leak 1 2", true},
		{"grant 1 1, grant 2 1", false},
		{"grant 1 1, grant 1 1", false},
		{"grant 1 1, grant 2 2, grant 3 1", false},
		{"grant 1 1, back 2 1", false},
		{"grant 1 1, grant 2 2, back 1 2", false},
		{"grant 1 1, back 1 1, back 1 1", false},
		{"back 1 1", false},
		{"grant 1 1, back 1 2", false},
		{"grant 1 1, leak 1 1", true},
		{"grant 1 1, leak 1 1, leak 1 1, back 1 1", true},
		{"grant 1 1, leak 2 1", false},
		{"grant 1 1, back 1 1, leak 1 1", false},
		{"grant 1 1, close 1 1, leak 1 1", false},
		{"grant 1 1, leak 1 1, grant 2 1", false}, // a leak does not end holding
		{"leak 1 1", false},
		{"close 0 1", true},
		{"close 1 1", false},
		{"grant 1 1, close 1 1", true},
		{"grant 1 1, close 1 1, grant 2 1", true}, // FreshConns rules this out
		{"grant 1 1, close 1 1, close 0 1", true},
		{"grant 1 1, close 1 1, close 1 1", false},
		{"grant 1 1, close 2 1", false},
		{"grant 1 1, close 0 1", false},
		{"grant 1 1, back 1 1, close 0 1", true},
		{"grant 1 1, back 1 1, close 1 1", false},
		{"grant 1 1, back 1 1, grant 2 1, close 1 1", false},
		{"grant 1 1, close 0 2", true},
		{"grant 1 1, fail 1, back 1 1", true},
		{"grant 1 1, fail 1, grant 2 1", false},
		{"grant 1 1, dial 1, open 1, probe 1, back 1 1", true},
		{"grant 1 1, dial 1, grant 2 1", false},
		{"late 1, gone 1, no 1, mode 1, grant 1 1, mode 2, back 1 1", true},
		{fmt.Sprintf("grant %d %d, back %d %d", top, top, top, top), true},
		{fmt.Sprintf("grant %d %d, back %d %d", top, top, top-1, top), false},
	})
}

func TestFreshConns(t *testing.T) {
	checkVerdicts(t, "FreshConns", impl.FreshConns, []verdict{
		{"dial 1", true},
		{"dial 1, open 1, grant 1 1, leak 1 1, back 1 1, probe 1, close 0 1", true},
		{"dial 1, fail 1", true},
		{"dial 1, close 0 1", true},
		{"dial 1, open 1, close 1 1", true},
		{"dial 1, dial 2, fail 2, open 1, dial 7", true},
		{"dial 1, dial 1", false},
		{"dial 1, open 1, dial 1", false},
		{"dial 1, fail 1, dial 1", false},
		{"dial 1, close 0 1, dial 1", false},
		{"dial 2, dial 1", false},
		{"dial 2, fail 2, dial 1", false},
		{"dial 1, dial 3, dial 2", false},
		{"dial 2, dial 3, dial 1", false},
		{"open 1", false},
		{"fail 1", false},
		{"grant 1 1", false},
		{"back 1 1", false},
		{"close 0 1", false},
		{"probe 1", false},
		{"leak 1 1", false},
		{"open 1, dial 1", false},
		{"close 0 1, dial 1", false},
		{"back 1 1, dial 1", false},
		{"leak 1 1, dial 1", false},
		{"dial 1, open 2", false},
		{"dial 2, close 0 1", false},
		{"dial 1, open 1, open 1", false},
		{"dial 1, open 1, grant 1 1, open 1", false},
		{"dial 1, open 1, fail 1", false},
		{"dial 1, fail 1, open 1", false},
		{"dial 1, fail 1, fail 1", false},
		{"dial 1, close 0 1, open 1", false},
		{"dial 1, close 0 1, fail 1", false},
		{"dial 1, grant 1 1", false},
		{"dial 1, grant 1 1, open 1", false},
		{"dial 1, probe 1", false},
		{"dial 1, probe 1, open 1", false},
		{"dial 1, dial 2, open 1, grant 1 2", false},
		{"dial 1, dial 2, open 1, probe 2", false},
		{"dial 1, back 1 1, leak 1 1, open 1", true}, // OneHolder rules this out
		{"dial 1, close 1 1", true},
		{"dial 1, fail 1, grant 1 1", false},
		{"dial 1, fail 1, back 1 1", false},
		{"dial 1, fail 1, close 0 1", false},
		{"dial 1, fail 1, probe 1", false},
		{"dial 1, fail 1, leak 1 1", false},
		{"dial 1, open 1, close 0 1, open 1", false},
		{"dial 1, open 1, close 0 1, fail 1", false},
		{"dial 1, open 1, close 0 1, grant 1 1", false},
		{"dial 1, open 1, close 0 1, back 1 1", false},
		{"dial 1, open 1, close 0 1, close 0 1", false},
		{"dial 1, open 1, close 0 1, probe 1", false},
		{"dial 1, open 1, close 0 1, leak 1 1", false},
		{"dial 1, fail 1, late 1, gone 1, no 1, mode 1", true}, // no connection 1 here
		{"mode 3, late 5, gone 6, no 7", true},
		{"mode 1, dial 1", true},
		{fmt.Sprintf("dial %d, dial %d", top-1, top), true},
		{fmt.Sprintf("dial %d, dial %d", top, top-1), false},
	})
}

func TestAnsweredOnce(t *testing.T) {
	texts := []string{"grant 1 1", "late 1", "gone 1", "no 1"}
	for _, first := range texts {
		for _, second := range texts {
			other := strings.Replace(second, " 1", " 2", 1)
			checkVerdicts(t, "AnsweredOnce", impl.AnsweredOnce, []verdict{
				{first, true},
				{first + ", " + second, false},
				{first + ", dial 1, " + other + ", open 1, " + second, false},
				{other + ", " + first + ", " + second, false},
				{first + ", " + other, true},
			})
		}
		checkVerdicts(t, "AnsweredOnce", impl.AnsweredOnce, []verdict{
			{first + ", back 1 1, back 1 1, leak 1 1, leak 1 1, close 1 1, close 1 1", true},
			{"back 1 1, leak 1 1, close 1 1, " + first, true},
			{"dial 1, dial 1, mode 1, mode 1, " + first, true},
		})
	}
	checkVerdicts(t, "AnsweredOnce", impl.AnsweredOnce, []verdict{
		{"grant 1 1, back 1 1, grant 1 1", false},
		{"grant 1 1, grant 1 2", false},
		{"grant 1 1, grant 2 1", true},
		{fmt.Sprintf("late %d, no %d", top, top), false},
		{fmt.Sprintf("late %d, no %d", top, top-1), true},
	})
}

func TestInOrder(t *testing.T) {
	checkVerdicts(t, "InOrder", impl.InOrder, []verdict{
		{"grant 1 1", true},
		{"grant 5 1", true},
		{"grant 1 2, grant 2 1", true},
		{"grant 1 1, grant 3 1, grant 9 1", true},
		{"grant 1 1, grant 1 1", false},
		{"grant 1 1, grant 1 2", false},
		{"grant 2 1, grant 1 2", false},
		{"grant 1 1, grant 3 2, grant 2 3", false},
		{"grant 3 1, grant 1 2, grant 2 3", false},
		{"grant 2 1, grant 3 2, grant 1 3", false},
		{"grant 2 1, back 2 1, late 9, grant 1 1", false},
		{"grant 1 1, late 9, no 8, gone 7, back 9 1, leak 9 1, close 9 1, grant 2 1", true},
		{"late 9, back 8 1, grant 1 1, late 2, back 1 1, no 1", true},
		{"dial 9, grant 1 9, dial 1, grant 2 1", true},
		{fmt.Sprintf("grant %d 1, grant %d 1", top-1, top), true},
		{fmt.Sprintf("grant %d 1, grant %d 1", top, top), false},
	})
}

func TestDrainedOk(t *testing.T) {
	allowed := []string{"fail 1", "back 1 1", "close 0 1", "close 1 1", "late 1", "no 1", "leak 1 1", "mode 2", "mode 3"}
	ruledOut := []string{"dial 1", "open 1", "grant 1 1", "probe 1", "gone 1", "mode 0", "mode 1"}
	for _, text := range append(ruledOut, allowed...) {
		fine := slices.Contains(allowed, text)
		for _, first := range []string{"mode 2", "mode 3"} {
			checkVerdicts(t, "DrainedOk", impl.DrainedOk, []verdict{
				{first + ", " + text, fine},
				{first + ", fail 1, back 2 2, " + text, fine},
				{"dial 1, mode 1, mode 0, " + first + ", " + text, fine},
				{first + ", " + text + ", mode 2, fail 9", fine},
				{first + ", mode 2, mode 3, " + text, fine},
				{text + ", " + first, true},
			})
		}
		checkVerdicts(t, "DrainedOk", impl.DrainedOk, []verdict{
			{text, true},
			{"mode 0, " + text, true},
			{"mode 1, " + text, true},
			{"mode 1, mode 0, dial 2, " + text, true},
		})
	}
}

func TestLiveAfter(t *testing.T) {
	rows := []struct {
		text string
		live []int
		most int
	}{
		{"dial 1", []int{1}, 1},
		{"late 1", []int{0}, 0},
		{"late 1, mode 1, no 2", []int{0, 0, 0}, 0},
		{"dial 1, open 1, grant 1 1, back 1 1, probe 1, leak 1 1, close 0 1", []int{1, 1, 1, 1, 1, 1, 0}, 1},
		{"dial 1, dial 2, fail 1, dial 3, dial 4, close 0 2, gone 4", []int{1, 2, 1, 2, 3, 2, 2}, 3},
		{"dial 1, dial 2, dial 3, close 3 1, close 0 2, fail 3", []int{1, 2, 3, 2, 1, 0}, 3},
		// Logs that FreshConns rules out: the numbers are still those of the events.
		{"dial 1, dial 1, fail 1", []int{1, 2, 1}, 2},
		{"close 0 1", []int{-1}, -1},
		{"fail 1, close 0 1, dial 2", []int{-1, -2, -1}, -1},
		{"close 0 1, dial 1", []int{-1, 0}, 0},
	}
	for _, row := range rows {
		log := logOf(t, row.text)
		if got := impl.LiveAfter(log); !slices.Equal(got, row.live) {
			t.Errorf("LiveAfter of %q = %v, want %v", row.text, got, row.live)
		}
		if got := impl.MostLive(log); got != row.most {
			t.Errorf("MostLive of %q = %d, want %d", row.text, got, row.most)
		}
		checkLog(t, log)
	}
}

func TestHoldersAt(t *testing.T) {
	text := "dial 1, dial 2, open 1, open 2, grant 4 2, grant 7 1, leak 4 2, back 4 2, grant 9 2, late 8, close 7 1, probe 5, back 9 2"
	after := [][]int{nil, nil, nil, nil, nil, {4}, {4, 7}, {4, 7}, {7}, {7, 9}, {7, 9}, {9}, {9}, nil}
	log := logOf(t, text)
	for n, want := range after {
		if got := impl.HoldersAt(log, n); !slices.Equal(got, want) {
			t.Errorf("HoldersAt(%d) = %v, want %v", n, got, want)
		}
		// Of the beginning of the log, all greater numbers say the same.
		for _, more := range []int{n, n + 1, n + 100, math.MaxInt} {
			if got := impl.HoldersAt(log[:n], more); !slices.Equal(got, want) {
				t.Errorf("HoldersAt(%d) of %d events = %v, want %v", more, n, got, want)
			}
		}
	}
	for _, n := range []int{0, -1, -2, -top, math.MinInt, math.MinInt + 1} {
		for _, some := range [][]impl.Event{log, logOf(t, "grant 1 1"), logOf(t, "grant 1 1, grant 2 2")} {
			if got := impl.HoldersAt(some, n); len(got) != 0 {
				t.Errorf("HoldersAt(%d) = %v", n, got)
			}
		}
	}
	// An invalid event counts even after the first n events.
	broken := append(slices.Clone(log), impl.Event{Kind: tellMode, Conn: 4})
	if got := impl.HoldersAt(broken, 6); len(got) != 0 {
		t.Errorf("HoldersAt of an invalid log = %v", got)
	}
}

// TestHoldersOfAnyLog has logs that OneHolder or AnsweredOnce rules out: a
// connection is held by the last ticket that it was granted to, and a ticket is
// listed once.
func TestHoldersOfAnyLog(t *testing.T) {
	rows := []struct {
		text string
		want []int
	}{
		{"grant 1 1, grant 1 2", []int{1}},
		{"grant 1 1, grant 1 2, back 1 1", []int{1}},
		{"grant 1 1, grant 1 2, back 1 1, close 1 2", nil},
		{"grant 1 1, grant 2 1", []int{2}},
		{"grant 2 1, grant 1 1", []int{1}},
		{"grant 1 1, grant 2 1, back 2 1", nil},
		{"grant 1 1, back 2 1", nil},
		{"grant 1 1, close 0 1", nil},
		{"grant 1 1, fail 1, probe 1, dial 1, open 1, leak 1 1", []int{1}},
		{"grant 3 1, back 3 2, close 3 2", []int{3}},
		{"grant 9 3, grant 3 9, grant 5 1, grant 1 5", []int{1, 3, 5, 9}},
		{"back 1 1, grant 1 1", []int{1}},
	}
	for _, row := range rows {
		log := logOf(t, row.text)
		if got := impl.HoldersAt(log, len(log)); !slices.Equal(got, row.want) {
			t.Errorf("HoldersAt of %q = %v, want %v", row.text, got, row.want)
		}
		checkLog(t, log)
	}
}

func TestAnswerOf(t *testing.T) {
	log := logOf(t, fmt.Sprintf("dial 1, open 1, late 2, grant 1 1, gone 3, no 4, leak 1 1, back 1 1, close 6 1, back 7 1, leak 8 1, no %d", top))
	for ticket, want := range map[int]int{
		1: tellGrant, 2: tellLate, 3: tellGone, 4: tellNo, top: tellNo,
		0: -1, -1: -1, 5: -1, 6: -1, 7: -1, 8: -1, top + 1: -1, top - 1: -1, math.MinInt: -1, math.MaxInt: -1,
	} {
		if got := impl.AnswerOf(log, ticket); got != want {
			t.Errorf("AnswerOf(%d) = %d, want %d", ticket, got, want)
		}
	}
	// The first answer counts where AnsweredOnce is false.
	for _, row := range []struct {
		text string
		want int
	}{
		{"back 1 1, close 1 1, leak 1 1, gone 1, late 1", tellGone}, {"late 1, grant 1 1", tellLate}, {"no 1, no 1, gone 1", tellNo}, {"grant 1 2, no 1", tellGrant},
	} {
		if got := impl.AnswerOf(logOf(t, row.text), 1); got != row.want {
			t.Errorf("AnswerOf of %q = %d, want %d", row.text, got, row.want)
		}
	}
}
