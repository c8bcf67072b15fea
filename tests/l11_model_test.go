package tests

import (
	"slices"
	"testing"

	"loop.example/g00722/impl"
)

// predicate is a condition of chapter 11 with a model that searches the log
// anew for every event, as the document words it.
type predicate struct {
	name  string
	holds func([]impl.Event) bool
	plain func([]impl.Event) bool
}

func predicates() []predicate {
	return []predicate{
		{"LogOk", impl.LogOk, func([]impl.Event) bool { return true }},
		{"OneHolder", impl.OneHolder, plainOneHolder},
		{"FreshConns", impl.FreshConns, plainFreshConns},
		{"AnsweredOnce", impl.AnsweredOnce, plainAnsweredOnce},
		{"InOrder", impl.InOrder, plainInOrder},
		{"DrainedOk", impl.DrainedOk, plainDrainedOk},
	}
}

// plainForm follows the wording of LogOk, condition by condition.
func plainForm(e impl.Event) bool {
	needsConn := []int{tellDial, tellOpen, tellFail, tellGrant, tellBack, tellClose, tellProbe, tellLeak}
	needsTicket := []int{tellGrant, tellBack, tellLate, tellGone, tellNo, tellLeak}
	switch {
	case e.Kind < 0 || e.Kind > 11:
		return false
	case e.Ticket < 0 || e.Ticket > top || e.Conn < 0 || e.Conn > top:
		return false
	case slices.Contains(needsConn, e.Kind) && e.Conn < 1:
		return false
	case slices.Contains(needsTicket, e.Kind) && e.Ticket < 1:
		return false
	case e.Kind == tellMode && e.Conn > 3:
		return false
	case !slices.Contains(needsConn, e.Kind) && e.Kind != tellMode && e.Conn != 0:
		return false
	}
	return slices.Contains(needsTicket, e.Kind) || e.Kind == tellClose || e.Ticket == 0
}

func plainLogOk(log []impl.Event) bool {
	return len(log) <= impl.MaxLog && !slices.ContainsFunc(log, func(e impl.Event) bool { return !plainForm(e) })
}

// plainHolder searches backwards for what happened to the connection last.
func plainHolder(log []impl.Event, conn int) int {
	for _, e := range slices.Backward(log) {
		if e.Conn != conn {
			continue
		}
		switch e.Kind {
		case tellGrant:
			return e.Ticket
		case tellBack, tellClose:
			return 0
		}
	}
	return 0
}

func plainOneHolder(log []impl.Event) bool {
	for k, e := range log {
		holder := plainHolder(log[:k], e.Conn)
		switch e.Kind {
		case tellGrant:
			if holder != 0 {
				return false
			}
		case tellBack, tellLeak, tellClose:
			if holder != e.Ticket {
				return false
			}
		}
	}
	return true
}

// placesOf has the indices of the connection's events of the Kinds.
func placesOf(log []impl.Event, conn int, kinds ...int) []int {
	var places []int
	for k, e := range log {
		if e.Conn == conn && slices.Contains(kinds, e.Kind) {
			places = append(places, k)
		}
	}
	return places
}

// plainFreshConn expects a connection that occurs in the log.
func plainFreshConn(log []impl.Event, conn int) bool {
	all := placesOf(log, conn, tellDial, tellOpen, tellFail, tellGrant, tellBack, tellClose, tellProbe, tellLeak)
	dials := placesOf(log, conn, tellDial)
	answers := placesOf(log, conn, tellOpen, tellFail)
	ends := placesOf(log, conn, tellFail, tellClose)
	if len(dials) != 1 || dials[0] != all[0] || len(answers) > 1 {
		return false
	}
	if len(ends) > 0 && ends[0] != all[len(all)-1] {
		return false
	}
	opens := placesOf(log, conn, tellOpen)
	for _, use := range placesOf(log, conn, tellGrant, tellProbe) {
		if len(opens) == 0 || opens[0] > use {
			return false
		}
	}
	return true
}

func plainFreshConns(log []impl.Event) bool {
	for k, e := range log {
		if e.Kind == tellMode || e.Conn == 0 {
			continue
		}
		if !plainFreshConn(log, e.Conn) {
			return false
		}
		for _, before := range log[:k] {
			if e.Kind == tellDial && before.Kind == tellDial && before.Conn >= e.Conn {
				return false
			}
		}
	}
	return true
}

func answerKinds() []int { return []int{tellGrant, tellLate, tellGone, tellNo} }

func plainAnsweredOnce(log []impl.Event) bool {
	for k, e := range log {
		for _, before := range log[:k] {
			if before.Ticket == e.Ticket && slices.Contains(answerKinds(), before.Kind) && slices.Contains(answerKinds(), e.Kind) {
				return false
			}
		}
	}
	return true
}

func plainInOrder(log []impl.Event) bool {
	for k, e := range log {
		for _, before := range log[:k] {
			if before.Kind == tellGrant && e.Kind == tellGrant && before.Ticket >= e.Ticket {
				return false
			}
		}
	}
	return true
}

func plainDrainedOk(log []impl.Event) bool {
	first := slices.IndexFunc(log, func(e impl.Event) bool { return e.Kind == tellMode && e.Conn >= 2 })
	return first < 0 || !slices.ContainsFunc(log[first+1:], func(e impl.Event) bool {
		return slices.Contains([]int{tellDial, tellOpen, tellGrant, tellProbe, tellGone}, e.Kind) || e.Kind == tellMode && e.Conn <= 1
	})
}

func countKinds(log []impl.Event, kinds ...int) int {
	n := 0
	for _, e := range log {
		n += truth(slices.Contains(kinds, e.Kind))
	}
	return n
}

func plainLiveAfter(log []impl.Event) []int {
	var counts []int
	for k := range log {
		counts = append(counts, countKinds(log[:k+1], tellDial)-countKinds(log[:k+1], tellFail, tellClose))
	}
	return counts
}

func plainMostLive(log []impl.Event) int {
	if len(log) == 0 {
		return 0
	}
	return slices.Max(plainLiveAfter(log))
}

func plainHoldersAt(log []impl.Event, n int) []int {
	first := log[:max(0, min(n, len(log)))]
	var tickets []int
	for _, e := range first {
		if ticket := plainHolder(first, e.Conn); ticket != 0 && !slices.Contains(tickets, ticket) {
			tickets = append(tickets, ticket)
		}
	}
	slices.Sort(tickets)
	return tickets
}

func plainAnswerOf(log []impl.Event, ticket int) int {
	k := slices.IndexFunc(log, func(e impl.Event) bool { return e.Ticket == ticket && slices.Contains(answerKinds(), e.Kind) })
	if k < 0 {
		return -1
	}
	return log[k].Kind
}

// checkRefusedLog expects the fixed results of every function.
func checkRefusedLog(t *testing.T, log []impl.Event) {
	t.Helper()
	shown := log[:min(len(log), 5)]
	for _, p := range predicates() {
		if p.holds(log) {
			t.Errorf("%s of %d events, %v: true", p.name, len(log), shown)
		}
	}
	if got := impl.LiveAfter(log); len(got) != 0 {
		t.Errorf("LiveAfter of %d events, %v = %v", len(log), shown, got)
	}
	if got := impl.MostLive(log); got != -1 {
		t.Errorf("MostLive of %d events, %v = %d", len(log), shown, got)
	}
	for _, n := range []int{-1, 0, 1, len(log) - 1, len(log), len(log) + 1} {
		if got := impl.HoldersAt(log, n); len(got) != 0 {
			t.Errorf("HoldersAt(%d) of %d events, %v = %v", n, len(log), shown, got)
		}
	}
	for ticket := -1; ticket <= 3; ticket++ {
		if got := impl.AnswerOf(log, ticket); got != -1 {
			t.Errorf("AnswerOf(%d) of %d events, %v = %d", ticket, len(log), shown, got)
		}
	}
}

// checkLog compares every function with its model.
func checkLog(t *testing.T, log []impl.Event) {
	t.Helper()
	if !plainLogOk(log) {
		checkRefusedLog(t, log)
		return
	}
	for _, p := range predicates() {
		if got, want := p.holds(log), p.plain(log); got != want {
			t.Errorf("%s of %s: %v, want %v", p.name, logText(log), got, want)
		}
	}
	if got, want := impl.LiveAfter(log), plainLiveAfter(log); !slices.Equal(got, want) {
		t.Errorf("LiveAfter of %s = %v, want %v", logText(log), got, want)
	}
	if got, want := impl.MostLive(log), plainMostLive(log); got != want {
		t.Errorf("MostLive of %s = %d, want %d", logText(log), got, want)
	}
	for _, n := range []int{-1, 0, 1, len(log) / 2, len(log) - 1, len(log), len(log) + 1} {
		if got, want := impl.HoldersAt(log, n), plainHoldersAt(log, n); !slices.Equal(got, want) {
			t.Errorf("HoldersAt(%d) of %s = %v, want %v", n, logText(log), got, want)
		}
	}
	for ticket := -1; ticket <= 3; ticket++ {
		if got, want := impl.AnswerOf(log, ticket), plainAnswerOf(log, ticket); got != want {
			t.Errorf("AnswerOf(%d) of %s = %d, want %d", ticket, logText(log), got, want)
		}
	}
}
