package tests

import (
	"bytes"
	"encoding/binary"
	"math/big"
	"slices"
	"testing"

	"loop.example/g00722/impl"
)

// The models of chapter 12 use the standard library's varints and accept only
// what encodes to the same bytes again.

func plainPutNumber(x int) []byte {
	if x < 0 || x > top {
		return nil
	}
	return binary.AppendUvarint(nil, uint64(x))
}

func plainTakeNumber(b []byte, at int) (int, int) {
	if at < 0 || at >= len(b) {
		return 0, -1
	}
	x, n := binary.Uvarint(b[at:])
	if n <= 0 || x > uint64(top) || n != len(plainPutNumber(int(x))) {
		return 0, -1
	}
	return int(x), at + n
}

func plainPutEvent(e impl.Event) []byte {
	ticket, conn := plainPutNumber(e.Ticket), plainPutNumber(e.Conn)
	if e.Kind < 0 || e.Kind > 11 || ticket == nil || conn == nil {
		return nil
	}
	return append(append([]byte{byte(e.Kind)}, ticket...), conn...)
}

func plainTakeEvent(b []byte, at int) (impl.Event, int) {
	if at < 0 || at >= len(b) || b[at] >= 12 {
		return impl.Event{}, -1
	}
	ticket, middle := plainTakeNumber(b, at+1)
	conn, next := plainTakeNumber(b, middle)
	if next < 0 {
		return impl.Event{}, -1
	}
	return impl.Event{Kind: int(b[at]), Ticket: ticket, Conn: conn}, next
}

func plainPutLog(log []impl.Event) ([]byte, bool) {
	var parts [][]byte
	for _, e := range log {
		part := plainPutEvent(e)
		if part == nil {
			return nil, false
		}
		parts = append(parts, part)
	}
	whole := bytes.Join(parts, nil)
	if len(log) > 2000 || len(whole) > 8000 {
		return nil, false
	}
	return whole, true
}

// plainTakeMost takes one event more as long as there is one.
func plainTakeMost(b []byte) ([]impl.Event, int) {
	if len(b) > 8000 {
		return nil, 0
	}
	var log []impl.Event
	end := 0
	for len(log) < 2000 {
		e, next := plainTakeEvent(b, end)
		if next < 0 {
			break
		}
		log = append(log, e)
		end = next
	}
	return log, end
}

// plainTakeLog takes what TakeMost does if this has the same bytes again.
func plainTakeLog(b []byte) ([]impl.Event, bool) {
	log, _ := plainTakeMost(b)
	again, ok := plainPutLog(log)
	if !ok || !bytes.Equal(again, b) {
		return nil, false
	}
	return log, true
}

// plainLogSum is the sum as a polynomial of 131, without limits.
func plainLogSum(log []impl.Event) int {
	row, ok := plainPutLog(log)
	if !ok {
		return -1
	}
	sum := big.NewInt(1)
	for _, x := range row {
		sum.Mul(sum, big.NewInt(131))
		sum.Add(sum, big.NewInt(int64(x)))
	}
	return int(sum.Mod(sum, big.NewInt(1000003)).Int64())
}

// checkRow compares the decoders with their models, at every index of the row
// and around it.
func checkRow(t *testing.T, b []byte) {
	t.Helper()
	for at := -2; at <= len(b)+2; at++ {
		x, next := impl.TakeNumber(b, at)
		if wantX, wantNext := plainTakeNumber(b, at); x != wantX || next != wantNext {
			t.Errorf("TakeNumber(%v, %d) = %d, %d, want %d, %d", b, at, x, next, wantX, wantNext)
		}
		e, next := impl.TakeEvent(b, at)
		if wantE, wantNext := plainTakeEvent(b, at); e != wantE || next != wantNext {
			t.Errorf("TakeEvent(%v, %d) = %+v, %d, want %+v, %d", b, at, e, next, wantE, wantNext)
		}
	}
	checkRowOfLog(t, b)
}

// checkRowOfLog compares the decoders of logs alone.
func checkRowOfLog(t *testing.T, b []byte) {
	t.Helper()
	log, ok := impl.TakeLog(b)
	if want, wantOk := plainTakeLog(b); ok != wantOk || !slices.Equal(log, want) {
		t.Errorf("TakeLog(%s) = %s, %v, want %s, %v", rowText(b), logText(log), ok, logText(want), wantOk)
	}
	most, size := impl.TakeMost(b)
	if want, wantSize := plainTakeMost(b); size != wantSize || !slices.Equal(most, want) {
		t.Errorf("TakeMost(%s) = %s, %d, want %s, %d", rowText(b), logText(most), size, logText(want), wantSize)
	}
}

// checkLogBytes compares the encoders with their models, and decodes again.
func checkLogBytes(t *testing.T, log []impl.Event) {
	t.Helper()
	row, ok := impl.PutLog(log)
	if want, wantOk := plainPutLog(log); ok != wantOk || !bytes.Equal(row, want) {
		t.Errorf("PutLog(%s) = %s, %v, want %s, %v", logText(log), rowText(row), ok, rowText(want), wantOk)
	}
	if got, want := impl.LogSum(log), plainLogSum(log); got != want {
		t.Errorf("LogSum(%s) = %d, want %d", logText(log), got, want)
	}
	if !ok {
		return
	}
	if again, fine := impl.TakeLog(row); !fine || !slices.Equal(again, log) {
		t.Errorf("TakeLog of PutLog(%s) = %s, %v", logText(log), logText(again), fine)
	}
}
