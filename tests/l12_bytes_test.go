package tests

import (
	"bytes"
	"fmt"
	"math"
	"slices"
	"testing"

	"loop.example/g00722/impl"
)

// rowText shows the beginning of a row.
func rowText(b []byte) string {
	return fmt.Sprintf("%d bytes %v", len(b), b[:min(len(b), 24)])
}

// spell is a number with its bytes, written by hand.
type spell struct {
	x   int
	row []byte
}

func spells() []spell {
	return []spell{
		{0, []byte{0}},
		{1, []byte{1}},
		{2, []byte{2}},
		{126, []byte{126}},
		{127, []byte{127}},
		{128, []byte{128, 1}},
		{129, []byte{129, 1}},
		{255, []byte{255, 1}},
		{256, []byte{128, 2}},
		{300, []byte{172, 2}},
		{16383, []byte{255, 127}},
		{16384, []byte{128, 128, 1}},
		{16385, []byte{129, 128, 1}},
		{2097151, []byte{255, 255, 127}},
		{2097152, []byte{128, 128, 128, 1}},
		{268435455, []byte{255, 255, 255, 127}},
		{268435456, []byte{128, 128, 128, 128, 1}},
		{top - 1, []byte{255, 147, 235, 220, 3}},
		{top, []byte{128, 148, 235, 220, 3}},
	}
}

func TestBytesConstants(t *testing.T) {
	if impl.MaxBytes != 8000 {
		t.Errorf("MaxBytes = %d", impl.MaxBytes)
	}
}

func TestSpelledNumbers(t *testing.T) {
	for _, s := range spells() {
		if got := impl.PutNumber(s.x); !bytes.Equal(got, s.row) {
			t.Errorf("PutNumber(%d) = %v, want %v", s.x, got, s.row)
		}
		// Whatever stands before it and behind it, also where this could be
		// taken for a part of it.
		for _, before := range [][]byte{nil, {0}, {127}, {128}, {255, 255}, {9, 9, 9}} {
			for _, behind := range [][]byte{nil, {0}, {1}, {127}, {128}, {255}, {128, 0}, {0, 0, 0}} {
				b := slices.Concat(before, s.row, behind)
				at := len(before)
				x, next := impl.TakeNumber(b, at)
				if x != s.x || next != at+len(s.row) {
					t.Errorf("TakeNumber(%v, %d) = %d, %d, want %d, %d", b, at, x, next, s.x, at+len(s.row))
				}
				checkRow(t, b)
			}
		}
	}
	for _, x := range append(notTicks(), farNumbers()...) {
		if x >= 0 && x <= top {
			continue
		}
		if got := impl.PutNumber(x); len(got) != 0 {
			t.Errorf("PutNumber(%d) = %v", x, got)
		}
	}
}

// noNumber expects that no number starts there.
func noNumber(t *testing.T, b []byte, at int) {
	t.Helper()
	if x, next := impl.TakeNumber(b, at); x != 0 || next != -1 {
		t.Errorf("TakeNumber(%s, %d) = %d, %d", rowText(b), at, x, next)
	}
}

func TestEveryIndex(t *testing.T) {
	b := []byte{5, 172, 2, 128, 0, 255, 255, 127, 0, 128}
	want := [][2]int{{5, 1}, {300, 3}, {2, 3}, {0, -1}, {0, 5}, {2097151, 8}, {16383, 8}, {127, 8}, {0, 9}, {0, -1}}
	for at, w := range want {
		if x, next := impl.TakeNumber(b, at); x != w[0] || next != w[1] {
			t.Errorf("TakeNumber at %d: %d, %d, want %v", at, x, next, w)
		}
	}
	for _, row := range [][]byte{nil, {}, {0}, {1, 1, 1}, b} {
		for _, at := range []int{-1, -2, -len(row), -len(row) - 1, len(row), len(row) + 1, top, -top, math.MinInt, math.MinInt + 1, math.MaxInt, math.MaxInt - 1, math.MaxInt - 4} {
			if at == 0 && len(row) > 0 {
				continue
			}
			noNumber(t, row, at)
			noEvent(t, row, at)
		}
	}
}

func TestSuperfluousBytes(t *testing.T) {
	for _, row := range [][]byte{{128, 0}, {129, 0}, {255, 0}, {128, 128, 0}, {172, 130, 0}, {255, 127 + 128, 0}, {128, 128, 128, 128, 0}, {128, 128, 128, 128, 128, 0}} {
		noNumber(t, row, 0)
		noEvent(t, slices.Concat([]byte{3}, row, []byte{1}), 0)
		noEvent(t, slices.Concat([]byte{3, 1}, row), 0)
	}
	// Every number with one byte 0 more or with several.
	for _, s := range spells() {
		long := slices.Clone(s.row)
		long[len(long)-1] += 128
		for n := range 12 {
			b := slices.Concat(long, bytes.Repeat([]byte{128}, n), []byte{0})
			noNumber(t, b, 0)
			checkRow(t, b)
		}
	}
	if x, next := impl.TakeNumber([]byte{0}, 0); x != 0 || next != 1 {
		t.Errorf("the single byte 0: %d, %d", x, next)
	}
	// A byte 0 that is not the last of its number is not superfluous.
	if x, next := impl.TakeNumber([]byte{128, 128, 1}, 0); x != 16384 || next != 3 {
		t.Errorf("groups of 0: %d, %d", x, next)
	}
}

func TestNumbersCutOff(t *testing.T) {
	for _, s := range spells() {
		for n := range len(s.row) {
			for _, before := range [][]byte{nil, {7}, {128, 1}} {
				cut := slices.Concat(before, s.row[:n])
				noNumber(t, cut, len(before))
				// What lies behind the end of the row is not a part of it.
				noNumber(t, slices.Concat(before, s.row)[:len(cut)], len(before))
			}
		}
	}
	for n := 1; n < 30; n++ {
		noNumber(t, bytes.Repeat([]byte{128}, n), 0)
		noNumber(t, bytes.Repeat([]byte{255}, n), 0)
	}
}

func TestGreatNumbers(t *testing.T) {
	for _, row := range [][]byte{
		{129, 148, 235, 220, 3}, // MaxTick + 1
		{128, 148, 235, 220, 4},
		{255, 255, 255, 255, 3},      // 2^30 - 1
		{128, 128, 128, 128, 4},      // 2^30
		{172, 130, 128, 128, 16},     // 300 + 2^32
		{128, 128, 128, 128, 8},      // 2^31
		{255, 255, 255, 255, 127},    // 2^35 - 1
		{128, 128, 128, 128, 128, 1}, // 2^35
		{255, 255, 255, 255, 255, 127},
		{172, 130, 128, 128, 128, 1},
		{128, 148, 235, 220, 131, 1},
		{128, 148, 235, 220, 131, 0}, // MaxTick with a superfluous byte
		{128, 128, 128, 128, 128, 0},
		{128, 128, 128, 128, 128, 128},
		{255, 255, 255, 255, 255, 0, 0},
	} {
		noNumber(t, row, 0)
		noNumber(t, slices.Concat([]byte{5}, row, []byte{1}), 1)
		noEvent(t, slices.Concat([]byte{3}, row, []byte{1}), 0)
		noEvent(t, slices.Concat([]byte{3, 1}, row), 0)
	}
	// Numbers of so many bytes that an int or a shift would wrap around.
	for n := 4; n < 70; n++ {
		for _, fill := range []byte{128, 129, 255} {
			for _, last := range []byte{0, 1, 2, 3, 64, 127} {
				row := append(bytes.Repeat([]byte{fill}, n), last)
				if n > 4 || last > 3 {
					noNumber(t, row, 0)
				}
				noNumber(t, slices.Concat([]byte{172, 130}, row), 0)
			}
		}
	}
	for _, n := range []int{1000, 7999, 8000, 8001, 100000} {
		noNumber(t, append(bytes.Repeat([]byte{128}, n), 1), 0)
		noNumber(t, append(bytes.Repeat([]byte{255}, n), 1), 0)
	}
}

// noEvent expects that no event starts there.
func noEvent(t *testing.T, b []byte, at int) {
	t.Helper()
	if e, next := impl.TakeEvent(b, at); e != (impl.Event{}) || next != -1 {
		t.Errorf("TakeEvent(%s, %d) = %+v, %d", rowText(b), at, e, next)
	}
}

func TestSpelledEvents(t *testing.T) {
	for kind := range 12 {
		for _, ticket := range spells() {
			for _, conn := range spells() {
				e := impl.Event{Kind: kind, Ticket: ticket.x, Conn: conn.x}
				row := slices.Concat([]byte{byte(kind)}, ticket.row, conn.row)
				if got := impl.PutEvent(e); !bytes.Equal(got, row) {
					t.Errorf("PutEvent(%+v) = %v, want %v", e, got, row)
				}
				b := slices.Concat([]byte{12, 128}, row, []byte{128, 0})
				if got, next := impl.TakeEvent(b, 2); got != e || next != 2+len(row) {
					t.Errorf("TakeEvent(%v, 2) = %+v, %d, want %+v", b, got, next, e)
				}
				for n := range len(row) {
					noEvent(t, row[:n], 0)
				}
			}
		}
	}
}

func TestEdgeEvents(t *testing.T) {
	for _, e := range edgeEvents() {
		want := plainPutEvent(e)
		if got := impl.PutEvent(e); !bytes.Equal(got, want) || (want == nil) != (len(got) == 0) {
			t.Errorf("PutEvent(%+v) = %v, want %v", e, got, want)
		}
		checkLogBytes(t, []impl.Event{e})
		checkLogBytes(t, []impl.Event{{Kind: 3, Ticket: 2, Conn: 1}, e, {Kind: 11, Conn: 3}})
	}
	for _, kind := range []int{-1, 12, 255, 256, 256 + 3, -256, 1 << 32, math.MinInt, math.MaxInt} {
		if got := impl.PutEvent(impl.Event{Kind: kind, Ticket: 1, Conn: 1}); len(got) != 0 {
			t.Errorf("PutEvent of Kind %d = %v", kind, got)
		}
	}
	for kind := range 12 {
		for _, n := range notTicks() {
			for _, e := range []impl.Event{{Kind: kind, Ticket: n, Conn: 1}, {Kind: kind, Ticket: 1, Conn: n}, {Kind: kind, Ticket: n, Conn: n}, {Kind: kind, Conn: n}, {Kind: kind, Ticket: n}} {
				if got := impl.PutEvent(e); len(got) != 0 {
					t.Errorf("PutEvent(%+v) = %v", e, got)
				}
			}
		}
	}
}

func TestBytesThatAreNoKind(t *testing.T) {
	for kind := range 256 {
		b := []byte{byte(kind), 7, 9}
		e, next := impl.TakeEvent(b, 0)
		if kind < 12 && (e != impl.Event{Kind: kind, Ticket: 7, Conn: 9} || next != 3) {
			t.Errorf("TakeEvent(%v) = %+v, %d", b, e, next)
		}
		if kind >= 12 {
			noEvent(t, b, 0)
		}
		checkRow(t, b)
		checkRow(t, append([]byte{3, 1, 1}, b...))
	}
}

// TestEventsAreNotLogs: an event is encoded whether or not a log of chapter 11
// may have it.
func TestEventsAreNotLogs(t *testing.T) {
	log := []impl.Event{{}, {Kind: 3}, {Kind: 7, Conn: 5}, {Kind: 11, Ticket: 4, Conn: 9}, {Kind: 0, Ticket: top}, {Kind: 5}, {Kind: 5}}
	if impl.LogOk(log) {
		t.Error("LogOk")
	}
	row, ok := impl.PutLog(log)
	want := []byte{0, 0, 0, 3, 0, 0, 7, 0, 5, 11, 4, 9, 0, 128, 148, 235, 220, 3, 0, 5, 0, 0, 5, 0, 0}
	if !ok || !bytes.Equal(row, want) {
		t.Errorf("PutLog = %v, %v", row, ok)
	}
	checkLogBytes(t, log)
	checkRow(t, row)
}

func TestEmptyRows(t *testing.T) {
	for _, log := range [][]impl.Event{nil, {}} {
		if row, ok := impl.PutLog(log); len(row) != 0 || !ok {
			t.Errorf("PutLog of an empty log = %v, %v", row, ok)
		}
		if sum := impl.LogSum(log); sum != 1 {
			t.Errorf("LogSum of an empty log = %d", sum)
		}
	}
	for _, b := range [][]byte{nil, {}} {
		if log, ok := impl.TakeLog(b); len(log) != 0 || !ok {
			t.Errorf("TakeLog of an empty row = %v, %v", log, ok)
		}
		if log, size := impl.TakeMost(b); len(log) != 0 || size != 0 {
			t.Errorf("TakeMost of an empty row = %v, %d", log, size)
		}
		noNumber(t, b, 0)
		noEvent(t, b, 0)
	}
}

// TestRowsByHand: logs that are decoded in whole or in part.
func TestRowsByHand(t *testing.T) {
	grant, rests, closed := impl.Event{Kind: 3, Ticket: 300, Conn: 1}, impl.Event{Kind: 11, Conn: 2}, impl.Event{Kind: 5, Ticket: 0, Conn: 128}
	for _, row := range []struct {
		b    []byte
		log  []impl.Event
		size int
	}{
		{[]byte{3, 172, 2, 1}, []impl.Event{grant}, 4},
		{[]byte{3, 172, 2, 1, 11, 0, 2}, []impl.Event{grant, rests}, 7},
		{[]byte{3, 172, 2, 1, 11, 0, 2, 5, 0, 128, 1}, []impl.Event{grant, rests, closed}, 11},
		{[]byte{3, 172, 2, 1, 11, 0, 2, 5, 0, 128}, []impl.Event{grant, rests}, 7},
		{[]byte{3, 172, 2, 1, 11, 0, 2, 5, 0}, []impl.Event{grant, rests}, 7},
		{[]byte{3, 172, 2, 1, 11, 0, 2, 5}, []impl.Event{grant, rests}, 7},
		{[]byte{3, 172, 2, 1, 11, 0}, []impl.Event{grant}, 4},
		{[]byte{3, 172, 2, 1, 11}, []impl.Event{grant}, 4},
		{[]byte{3, 172, 2}, nil, 0},
		{[]byte{3, 172}, nil, 0},
		{[]byte{3}, nil, 0},
		{[]byte{12, 0, 0, 3, 172, 2, 1}, nil, 0},
		{[]byte{3, 172, 2, 1, 12, 0, 0, 11, 0, 2}, []impl.Event{grant}, 4},
		{[]byte{3, 172, 2, 1, 11, 128, 0, 2}, []impl.Event{grant}, 4},
		{[]byte{3, 172, 2, 1, 11, 0, 130, 0}, []impl.Event{grant}, 4},
		{[]byte{3, 172, 2, 1, 11, 0, 2, 0}, []impl.Event{grant, rests}, 7},
		{[]byte{3, 172, 2, 1, 11, 0, 2, 0, 0}, []impl.Event{grant, rests}, 7},
		{[]byte{3, 172, 2, 1, 11, 0, 2, 0, 0, 0}, []impl.Event{grant, rests, {}}, 10},
		{[]byte{3, 172, 2, 1, 11, 0, 2, 255}, []impl.Event{grant, rests}, 7},
		{[]byte{3, 172, 2, 1, 3, 129, 148, 235, 220, 3, 1}, []impl.Event{grant}, 4},
	} {
		log, size := impl.TakeMost(row.b)
		if !slices.Equal(log, row.log) || size != row.size {
			t.Errorf("TakeMost(%v) = %s, %d", row.b, logText(log), size)
		}
		log, ok := impl.TakeLog(row.b)
		if whole := row.size == len(row.b); ok != whole || ok && !slices.Equal(log, row.log) || !ok && len(log) != 0 {
			t.Errorf("TakeLog(%v) = %s, %v", row.b, logText(log), ok)
		}
		checkRow(t, row.b)
	}
}

func TestSumsByHand(t *testing.T) {
	for _, row := range []struct {
		log  []impl.Event
		want int
	}{
		{[]impl.Event{{}}, 248085}, // 131^3 modulo 1000003
		{[]impl.Event{{Conn: 1}}, 248086},
		{[]impl.Event{{Kind: 3, Ticket: 300, Conn: 1}}, 195237}, // 134, 17726, 322102
		{[]impl.Event{{Kind: 12}}, -1},
		{[]impl.Event{{Kind: 3, Ticket: 300, Conn: 1}, {Conn: -1}}, -1},
		{slices.Repeat([]impl.Event{{}}, impl.MaxLog+1), -1},
		{slices.Repeat([]impl.Event{{Ticket: top, Conn: top}}, 728), -1}, // 8008 bytes
		{[]impl.Event{{Ticket: top + 1}}, -1},
		{[]impl.Event{{Kind: 2, Conn: 1}, {Kind: -1, Ticket: 1}, {}}, -1},
	} {
		if got := impl.LogSum(row.log); got != row.want {
			t.Errorf("LogSum of %d events, %v = %d, want %d", len(row.log), row.log[0], got, row.want)
		}
	}
}
