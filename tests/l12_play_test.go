package tests

import (
	"bytes"
	"fmt"
	"math"
	"reflect"
	"slices"
	"testing"

	"loop.example/g00722/impl"
)

// drawnNumber draws numbers of every length, and those at which it changes.
func drawnNumber(draw func(int) int) int {
	if draw(4) == 0 {
		all := spells()
		return all[draw(len(all))].x
	}
	return (draw(1<<15)<<15 + draw(1<<15)) % top >> draw(30)
}

func drawnLog(draw func(int) int, n int) []impl.Event {
	log := make([]impl.Event, n)
	for k := range log {
		log[k] = impl.Event{Kind: draw(12), Ticket: drawnNumber(draw), Conn: drawnNumber(draw)}
	}
	return log
}

// endsOf has the number of bytes of the first 0, 1, 2, .. events.
func endsOf(log []impl.Event) []int {
	ends := []int{0}
	for k, e := range log {
		ends = append(ends, ends[k]+len(plainPutEvent(e)))
	}
	return ends
}

// checkPrefixes: promise 15, of a truncated log exactly the complete events are
// decoded.
func checkPrefixes(t *testing.T, log []impl.Event) {
	t.Helper()
	row, ok := impl.PutLog(log)
	ends := endsOf(log)
	if !ok || len(row) != ends[len(log)] {
		t.Fatalf("PutLog(%s) = %s, %v", logText(log), rowText(row), ok)
	}
	complete := 0
	for n := range len(row) + 1 {
		if complete < len(log) && ends[complete+1] == n {
			complete++
		}
		some, size := impl.TakeMost(row[:n])
		if !slices.Equal(some, log[:complete]) || size != ends[complete] {
			t.Fatalf("%d bytes of %s: TakeMost = %s, %d, want %d events, %d", n, logText(log), logText(some), size, complete, ends[complete])
		}
		whole, ok := impl.TakeLog(row[:n])
		if fits := n == ends[complete]; ok != fits || fits && !slices.Equal(whole, log[:complete]) || !fits && len(whole) > 0 {
			t.Fatalf("%d bytes of %s: TakeLog = %s, %v", n, logText(log), logText(whole), ok)
		}
	}
}

func TestLogsOfPoolsInBytes(t *testing.T) {
	for k, c := range playConfigs(t) {
		t.Run(fmt.Sprint(k), func(t *testing.T) {
			t.Parallel()
			for seed := range 12 {
				draw := drawer(seed*59 + k)
				ops := drawnOps(draw, c, 40+draw(impl.MaxOps-40))
				_, log, _ := played(t, c, endedOps(draw, ops[1:], doDrain))
				checkLogBytes(t, log)
				checkPrefixes(t, log)
			}
		})
	}
}

func TestDrawnLogsInBytes(t *testing.T) {
	for seed := range 150 {
		draw := drawer(seed * 97)
		log := drawnLog(draw, draw(60))
		checkLogBytes(t, log)
		checkPrefixes(t, log)
	}
	long := drawnLog(drawer(5), 700)
	checkLogBytes(t, long)
	checkPrefixes(t, long)
}

func TestEveryShortRow(t *testing.T) {
	choice := []byte{0, 1, 3, 11, 12, 127, 128, 129, 255}
	for length := range 6 {
		for code := range power(len(choice), length) {
			row := make([]byte, length)
			for k := range row {
				row[k] = choice[code%len(choice)]
				code /= len(choice)
			}
			if length < 5 {
				checkRow(t, row)
			} else {
				checkRowOfLog(t, row)
			}
		}
	}
}

func TestEveryNumberOfFewBytes(t *testing.T) {
	for x := range 1 << 15 {
		row := impl.PutNumber(x)
		if !bytes.Equal(row, plainPutNumber(x)) {
			t.Fatalf("PutNumber(%d) = %v", x, row)
		}
		if got, next := impl.TakeNumber(row, 0); got != x || next != len(row) {
			t.Fatalf("TakeNumber of PutNumber(%d) = %d, %d", x, got, next)
		}
	}
	for first := range 256 {
		for second := range 256 {
			checkRow(t, []byte{byte(first), byte(second)})
		}
	}
}

// changedRow does to a row what a fault of a file might do to it.
func changedRow(draw func(int) int, row []byte) []byte {
	changed := slices.Clone(row)
	k := draw(len(row))
	switch draw(6) {
	case 0:
		return slices.Delete(changed, k, k+1)
	case 1:
		return slices.Insert(changed, k, byte(draw(256)))
	case 2:
		changed[k] ^= 1 << draw(8)
	case 3:
		changed[k] = []byte{0, 11, 12, 127, 128, 255}[draw(6)]
	case 4:
		return changed[:k]
	case 5:
		return slices.Insert(changed, k, row[k:]...)
	}
	return changed
}

func TestChangedRows(t *testing.T) {
	seen := [2]int{}
	for seed := range 600 {
		draw := drawer(seed * 83)
		row, _ := impl.PutLog(drawnLog(draw, 1+draw(20)))
		for range 3 {
			if len(row) > 0 {
				row = changedRow(draw, row)
			}
			checkRow(t, row)
			_, ok := impl.TakeLog(row)
			seen[truth(ok)]++
		}
	}
	if seen[0] < 300 || seen[1] < 100 {
		t.Errorf("of the changed rows %v are refused and accepted", seen)
	}
}

// sized is a log of n events that occupies exactly size bytes.
func sized(t *testing.T, n, size int) []impl.Event {
	t.Helper()
	log := make([]impl.Event, n)
	rest := size - 3*n
	for k := range log {
		more := min(rest, 8)
		rest -= more
		log[k] = impl.Event{Kind: k % 12, Ticket: 1 << (7 * min(more, 4)), Conn: 1 << (7 * max(more-4, 0))}
	}
	if ends := endsOf(log); ends[n] != size {
		t.Fatalf("%d events occupy %d bytes, not %d", n, ends[n], size)
	}
	return log
}

func TestLimitsOfLogs(t *testing.T) {
	for _, n := range []int{728, 1000, 1999, 2000} {
		for _, size := range []int{7999, 8000} {
			log := sized(t, n, size)
			row, ok := impl.PutLog(log)
			if !ok || len(row) != size || impl.LogSum(log) != plainLogSum(log) {
				t.Errorf("PutLog of %d events = %s, %v", n, rowText(row), ok)
			}
			checkLogBytes(t, log)
			checkRowOfLog(t, row)
			checkRowOfLog(t, append(slices.Clone(row), 0))
			checkRowOfLog(t, row[:size-1])
		}
		for _, size := range []int{8001, 8002, 8008} {
			checkRefusedBytes(t, sized(t, n, size))
		}
	}
	for _, n := range []int{2001, 2002, 2667, 100000} {
		checkRefusedBytes(t, slices.Repeat([]impl.Event{{Kind: 1, Conn: 1}}, n))
	}
	checkRefusedBytes(t, append(sized(t, 1999, 7990), impl.Event{Kind: 12}))
	checkRefusedBytes(t, append([]impl.Event{{Kind: -1}}, sized(t, 1999, 7990)...))
}

func checkRefusedBytes(t *testing.T, log []impl.Event) {
	t.Helper()
	if row, ok := impl.PutLog(log); ok || len(row) != 0 {
		t.Errorf("PutLog of %d events = %s, %v", len(log), rowText(row), ok)
	}
	if sum := impl.LogSum(log); sum != -1 {
		t.Errorf("LogSum of %d events = %d", len(log), sum)
	}
}

// TestLimitsOfRows: more events than MaxLog, and more bytes than MaxBytes.
func TestLimitsOfRows(t *testing.T) {
	small := []byte{1, 0, 1}
	for _, n := range []int{1999, 2000, 2001, 2002, 2666} {
		b := bytes.Repeat(small, n)
		log, ok := impl.TakeLog(b)
		if fits := n <= 2000; ok != fits || fits && len(log) != n || !fits && len(log) != 0 {
			t.Errorf("TakeLog of %d events: %d, %v", n, len(log), ok)
		}
		most, size := impl.TakeMost(b)
		if want := min(n, 2000); len(most) != want || size != 3*want {
			t.Errorf("TakeMost of %d events: %d, %d", n, len(most), size)
		}
		checkRowOfLog(t, b)
		for _, rest := range [][]byte{{0}, {12}, {1, 0}, {1, 0, 128}, {1, 0, 128, 0}} {
			checkRowOfLog(t, append(slices.Clone(b), rest...)[:min(len(b)+len(rest), 8000)])
		}
	}
	whole, _ := impl.PutLog(sized(t, 1500, 8000))
	for _, more := range [][]byte{{0}, {128}, {1, 0, 1}, small, bytes.Repeat(small, 5000)} {
		b := append(slices.Clone(whole), more...)
		if log, ok := impl.TakeLog(b); ok || len(log) != 0 {
			t.Errorf("TakeLog of %s: %d events, %v", rowText(b), len(log), ok)
		}
		if log, size := impl.TakeMost(b); len(log) != 0 || size != 0 {
			t.Errorf("TakeMost of %s: %d events, %d", rowText(b), len(log), size)
		}
	}
	// Only logs have a limit of bytes.
	b := append(bytes.Repeat([]byte{128}, 9000), 3, 172, 2, 1)
	if x, next := impl.TakeNumber(b, 9001); x != 300 || next != 9003 {
		t.Errorf("TakeNumber in a long row = %d, %d", x, next)
	}
	if e, next := impl.TakeEvent(b, 9000); e != (impl.Event{Kind: 3, Ticket: 300, Conn: 1}) || next != 9004 {
		t.Errorf("TakeEvent in a long row = %+v, %d", e, next)
	}
}

// byteAnswers has what every function says of a log, of its row and of places.
type byteAnswers struct {
	numbers [][]byte
	events  [][]byte
	row     []byte
	rowOk   bool
	log     []impl.Event
	logOk   bool
	most    []impl.Event
	size    int
	sum     int
	taken   []int
}

// byteAnswersOf expects a log with a row, or a log of which PutLog fails.
func byteAnswersOf(log []impl.Event, b []byte) byteAnswers {
	var a byteAnswers
	a.row, a.rowOk = impl.PutLog(log)
	a.log, a.logOk = impl.TakeLog(b)
	a.most, a.size = impl.TakeMost(b)
	a.sum = impl.LogSum(log)
	for _, e := range log[:min(len(log), 50)] {
		a.numbers = append(a.numbers, impl.PutNumber(e.Ticket), impl.PutNumber(e.Conn))
		a.events = append(a.events, impl.PutEvent(e))
	}
	for at := -1; at <= len(b)+1; at += 1 + len(b)/50 {
		x, next := impl.TakeNumber(b, at)
		e, after := impl.TakeEvent(b, at)
		a.taken = append(a.taken, x, next, e.Kind, e.Ticket, e.Conn, after)
	}
	return a
}

func spoilBytes(row []byte) {
	row = row[:cap(row)]
	for k := range row {
		row[k] = 77
	}
}

// spoil overwrites the answers and, where they are appended to, what is behind
// their end.
func (a byteAnswers) spoil() {
	for _, row := range slices.Concat(a.numbers, a.events, [][]byte{a.row}) {
		_ = append(row, 5, 6, 7, 8, 9)
		spoilBytes(row)
	}
	for _, log := range [][]impl.Event{a.log, a.most} {
		_ = append(log, impl.Event{Kind: -9, Ticket: -9, Conn: -9})
		spoilEvents(log[:cap(log)])
	}
}

// logAndRow is a log and a row of bytes, which need not belong together.
type logAndRow struct {
	log []impl.Event
	row []byte
}

func severalRows(t *testing.T) []logAndRow {
	t.Helper()
	list := []logAndRow{{nil, nil}, {[]impl.Event{}, []byte{}}, {[]impl.Event{{Kind: 12}}, []byte{128}}, {slices.Repeat([]impl.Event{{}}, 2001), make([]byte, 8001)}}
	for seed := range 30 {
		draw := drawer(seed * 31)
		log := drawnLog(draw, 1+draw(40))
		row, _ := impl.PutLog(log)
		list = append(list, logAndRow{log, row}, logAndRow{log, row[:draw(len(row))]}, logAndRow{log, changedRow(draw, row)})
	}
	return append(list, logAndRow{sized(t, 900, 8000), bytes.Repeat([]byte{1, 0, 1}, 2500)})
}

// TestRowsAreKept: no function changes its argument, also behind its end, and
// no result shares memory with it or with another result.
func TestRowsAreKept(t *testing.T) {
	for _, plain := range severalRows(t) {
		log := append(slices.Clone(plain.log), impl.Event{Kind: 3, Ticket: 4, Conn: 5})[:len(plain.log)]
		row := append(slices.Clone(plain.row), 3, 1, 1, 0)[:len(plain.row)]
		wholeLog, wholeRow := slices.Clone(log[:len(log)+1]), slices.Clone(row[:len(row)+4])
		first, second := byteAnswersOf(log, row), byteAnswersOf(log, row)
		if !reflect.DeepEqual(first, second) {
			t.Fatalf("%s: the answers differ", rowText(row))
		}
		first.spoil()
		if !slices.Equal(log[:len(log)+1], wholeLog) || !bytes.Equal(row[:len(row)+4], wholeRow) {
			t.Fatalf("%s: an argument changed", rowText(row))
		}
		if third := byteAnswersOf(plain.log, plain.row); !reflect.DeepEqual(second, third) {
			t.Errorf("%s: the answers changed with others", rowText(row))
		}
	}
}

// TestAnswersStayApart: what is appended to one row is not seen in another.
func TestAnswersStayApart(t *testing.T) {
	for _, s := range spells() {
		one, two := impl.PutNumber(s.x), impl.PutNumber(s.x)
		_ = append(one[:0], 9, 9, 9, 9, 9, 9, 9)
		if !bytes.Equal(two, s.row) || !bytes.Equal(impl.PutNumber(s.x), s.row) {
			t.Errorf("PutNumber(%d) changed", s.x)
		}
		e := impl.Event{Kind: 3, Ticket: s.x, Conn: s.x}
		first, second := impl.PutEvent(e), impl.PutEvent(e)
		_ = append(first[:0], bytes.Repeat([]byte{9}, 12)...)
		if want := plainPutEvent(e); !bytes.Equal(second, want) || !bytes.Equal(impl.PutEvent(e), want) {
			t.Errorf("PutEvent(%+v) changed", e)
		}
	}
	// Logs of which one continues the other.
	log := drawnLog(drawer(3), 20)
	for n := range log {
		short, _ := impl.PutLog(log[:n])
		long, _ := impl.PutLog(log[:n+1])
		want := slices.Clone(long)
		_ = append(short, bytes.Repeat([]byte{9}, 12)...)
		some, _ := impl.TakeLog(long[:len(short)])
		_ = append(some, impl.Event{Kind: 9})
		if !bytes.Equal(long, want) {
			t.Errorf("the row of %d events changed", n+1)
		}
	}
}

// TestRowsAreForgotten: an answer does not depend on the calls before.
func TestRowsAreForgotten(t *testing.T) {
	list := severalRows(t)
	var first []byteAnswers
	for _, r := range list {
		first = append(first, byteAnswersOf(r.log, r.row))
	}
	for k, r := range slices.Backward(list) {
		if again := byteAnswersOf(r.log, r.row); !reflect.DeepEqual(again, first[k]) {
			t.Errorf("%s: the answers differ", rowText(r.row))
		}
	}
	again := make(chan bool)
	for k, r := range list {
		go func() { again <- reflect.DeepEqual(byteAnswersOf(r.log, r.row), first[k]) }()
	}
	for range list {
		if !<-again {
			t.Error("an answer at the same time differs")
		}
	}
}

// TestSumsTellLogsApart: logs that differ in one event have different sums,
// but for a few.
func TestSumsTellLogsApart(t *testing.T) {
	same := 0
	for seed := range 300 {
		draw := drawer(seed * 7)
		log := drawnLog(draw, 1+draw(30))
		changed := changedLog(draw, log)
		sum := impl.LogSum(log)
		if sum < 0 || sum > 1000002 || sum != plainLogSum(log) {
			t.Errorf("LogSum(%s) = %d", logText(log), sum)
		}
		checkLogBytes(t, changed)
		same += truth(!slices.Equal(log, changed) && sum == impl.LogSum(changed))
	}
	if same > 5 {
		t.Errorf("%d sums agree", same)
	}
}

func TestRefusedBytes(t *testing.T) {
	good := drawnLog(drawer(1), 10)
	bad := []impl.Event{{Kind: -1}, {Kind: 12}, {Kind: math.MinInt}, {Kind: math.MaxInt}, {Kind: 256}}
	for _, n := range notTicks() {
		bad = append(bad, impl.Event{Kind: 3, Ticket: n}, impl.Event{Kind: 3, Conn: n})
	}
	for _, e := range bad {
		for place := range len(good) + 1 {
			checkRefusedBytes(t, slices.Insert(slices.Clone(good), place, e))
		}
	}
}
