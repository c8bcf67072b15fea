package tests

import (
	"math"
	"slices"
	"testing"

	"loop.example/g00722/impl"
)

// notIds are numbers just outside 1..MaxTick and at the ends of int.
func notIds() []int { return append(notTicks(), 0) }

func sameQueue(a, b impl.Queue) bool {
	return slices.Equal(a.Slots, b.Slots) && a.First == b.First && a.Last == b.Last && a.Free == b.Free && a.Count == b.Count
}

func copyOfQueue(q impl.Queue) impl.Queue {
	q.Slots = slices.Clone(q.Slots)
	return q
}

// queueOf pushes the ids in order.
func queueOf(t *testing.T, ids ...int) impl.Queue {
	t.Helper()
	q := impl.NewQueue()
	for _, id := range ids {
		var place int
		if q, place = impl.PushBack(q, id); place < 0 {
			t.Fatalf("PushBack refuses %d", id)
		}
	}
	return q
}

func fullQueue(t *testing.T) impl.Queue {
	t.Helper()
	return queueOf(t, idsUpTo(impl.MaxQueue)...)
}

func idsUpTo(n int) []int {
	var ids []int
	for k := range n {
		ids = append(ids, k+1)
	}
	return ids
}

func checkQueue(t *testing.T, what string, q impl.Queue, ids ...int) {
	t.Helper()
	if !impl.QueueOk(q) {
		t.Errorf("%s: the queue is invalid: %v", what, q)
	}
	if got := impl.ListQueue(q); !slices.Equal(got, ids) || q.Count != len(ids) {
		t.Errorf("%s: the queue lists %v with Count %d, want %v", what, got, q.Count, ids)
	}
}

func TestNewQueue(t *testing.T) {
	if impl.MaxQueue != 60 {
		t.Errorf("MaxQueue is %d", impl.MaxQueue)
	}
	q := impl.NewQueue()
	checkQueue(t, "new", q)
	if q.First != -1 || q.Last != -1 || q.Free != 0 || q.Count != 0 || len(q.Slots) != impl.MaxQueue {
		t.Fatalf("NewQueue: %v", q)
	}
	for k, s := range q.Slots {
		want := impl.Slot{Prev: -1, Next: k + 1}
		if k == impl.MaxQueue-1 {
			want.Next = -1
		}
		if s != want {
			t.Errorf("slot %d is %v, want %v", k, s, want)
		}
	}
	q.Slots[0].Id = 5
	if impl.NewQueue().Slots[0].Id != 0 {
		t.Error("two new queues share their slots")
	}
}

func TestPushBackLinksTheFirstFreeSlot(t *testing.T) {
	q := queueOf(t, 7, 8, 9)
	want := impl.NewQueue()
	want.Slots[0] = impl.Slot{Id: 7, Prev: -1, Next: 1, Used: true}
	want.Slots[1] = impl.Slot{Id: 8, Prev: 0, Next: 2, Used: true}
	want.Slots[2] = impl.Slot{Id: 9, Prev: 1, Next: -1, Used: true}
	want.First, want.Last, want.Free, want.Count = 0, 2, 3, 3
	if !sameQueue(q, want) {
		t.Errorf("got %v, want %v", q, want)
	}
}

func TestPushBackRefuses(t *testing.T) {
	q := queueOf(t, 7, 8, top)
	for _, id := range append(notIds(), 7, 8, top) {
		if got, place := impl.PushBack(q, id); place != -1 || !sameQueue(got, q) {
			t.Errorf("PushBack(%d) = %v, %d", id, got, place)
		}
	}
	for _, id := range []int{1, top - 1} {
		got, place := impl.PushBack(q, id)
		if place != 3 {
			t.Errorf("PushBack(%d) takes slot %d", id, place)
		}
		checkQueue(t, "push", got, 7, 8, top, id)
	}
}

func TestTheLastFreeSlot(t *testing.T) {
	q := queueOf(t, idsUpTo(impl.MaxQueue-1)...)
	if q.Free != impl.MaxQueue-1 {
		t.Errorf("one slot is left, Free is %d", q.Free)
	}
	q, place := impl.PushBack(q, top)
	if place != impl.MaxQueue-1 || q.Free != -1 || q.Last != place {
		t.Errorf("the last push takes slot %d: %v", place, q)
	}
	checkQueue(t, "full", q, append(idsUpTo(impl.MaxQueue-1), top)...)
	for _, id := range []int{impl.MaxQueue, 1, top, 0} {
		if got, place := impl.PushBack(q, id); place != -1 || !sameQueue(got, q) {
			t.Errorf("a full queue takes %d into slot %d", id, place)
		}
	}
	q, id := impl.RemoveAt(q, 30)
	if id != 31 || q.Free != 30 || q.Slots[30] != (impl.Slot{Prev: -1, Next: -1}) {
		t.Errorf("after removal of %d: %v", id, q)
	}
	q, place = impl.PushBack(q, 500)
	if place != 30 || q.Free != -1 || q.Last != 30 || !impl.QueueOk(q) {
		t.Errorf("the push takes slot %d: %v", place, q)
	}
}

func TestFullQueueLeavesInOrder(t *testing.T) {
	q := fullQueue(t)
	for k := range impl.MaxQueue {
		var id int
		if q, id = impl.PopFront(q); id != k+1 || q.Free != k || !impl.QueueOk(q) {
			t.Fatalf("pop %d: %d, %v", k, id, q)
		}
	}
	checkQueue(t, "emptied", q)
	if q.First != -1 || q.Last != -1 {
		t.Errorf("the emptied queue: %v", q)
	}
	if got, id := impl.PopFront(q); id != 0 || !sameQueue(got, q) {
		t.Errorf("the emptied queue pops %d", id)
	}
	// The slots were freed in ascending order, so the last one is taken first.
	if _, place := impl.PushBack(q, 1); place != impl.MaxQueue-1 {
		t.Errorf("the push takes slot %d", place)
	}
}

func TestRemoveAt(t *testing.T) {
	cases := []struct {
		what  string
		ids   []int
		place int
		id    int
		left  []int
	}{
		{"the first", []int{7, 8, 9}, 0, 7, []int{8, 9}},
		{"the middle", []int{7, 8, 9}, 1, 8, []int{7, 9}},
		{"the last", []int{7, 8, 9}, 2, 9, []int{7, 8}},
		{"the first of two", []int{7, 8}, 0, 7, []int{8}},
		{"the last of two", []int{7, 8}, 1, 8, []int{7}},
		{"the only one", []int{7}, 0, 7, nil},
		{"the smallest id", []int{9, 1, 8}, 1, 1, []int{9, 8}},
		{"the largest id", []int{9, top, 8}, 1, top, []int{9, 8}},
		{"the first of a full queue", idsUpTo(impl.MaxQueue), 0, 1, idsUpTo(impl.MaxQueue)[1:]},
		{"the last of a full queue", idsUpTo(impl.MaxQueue), impl.MaxQueue - 1, impl.MaxQueue, idsUpTo(impl.MaxQueue - 1)},
	}
	for _, c := range cases {
		q := queueOf(t, c.ids...)
		got, id := impl.RemoveAt(q, c.place)
		if id != c.id {
			t.Errorf("%s: RemoveAt returns %d, want %d", c.what, id, c.id)
		}
		checkQueue(t, c.what, got, c.left...)
		if free := (impl.Slot{Prev: -1, Next: q.Free}); got.Free != c.place || got.Slots[c.place] != free {
			t.Errorf("%s: Free is %d and its slot %v", c.what, got.Free, got.Slots[c.place])
		}
		// What is left still leaves from the front, in the order of insertion.
		for _, want := range c.left {
			if got, id = impl.PopFront(got); id != want {
				t.Fatalf("%s: PopFront returns %d, want %d", c.what, id, want)
			}
		}
	}
}

func TestRemoveAtRefuses(t *testing.T) {
	q := queueOf(t, 7, 8, 9)
	q, _ = impl.RemoveAt(q, 1)
	for _, place := range []int{1, 3, impl.MaxQueue - 1, impl.MaxQueue, -1, -2, math.MinInt, math.MaxInt} {
		if got, id := impl.RemoveAt(q, place); id != 0 || !sameQueue(got, q) {
			t.Errorf("RemoveAt(%d) = %v, %d", place, got, id)
		}
	}
	empty := impl.NewQueue()
	for _, place := range []int{-1, 0, impl.MaxQueue - 1} {
		if got, id := impl.RemoveAt(empty, place); id != 0 || !sameQueue(got, empty) {
			t.Errorf("RemoveAt(%d) of the empty queue = %v, %d", place, got, id)
		}
	}
}

func TestPlaceOfAndAheadOf(t *testing.T) {
	q := queueOf(t, 7, 1, top, 9)
	q, _ = impl.PopFront(q)
	q, _ = impl.PushBack(q, 5)
	cases := []struct{ id, place, ahead int }{
		{1, 1, 0}, {top, 2, 1}, {9, 3, 2}, {5, 0, 3}, {7, -1, -1}, {2, -1, -1}, {top - 1, -1, -1},
	}
	for _, id := range notIds() {
		cases = append(cases, struct{ id, place, ahead int }{id, -1, -1})
	}
	for _, c := range cases {
		if got := impl.PlaceOf(q, c.id); got != c.place {
			t.Errorf("PlaceOf(%d) = %d, want %d", c.id, got, c.place)
		}
		if got := impl.AheadOf(q, c.id); got != c.ahead {
			t.Errorf("AheadOf(%d) = %d, want %d", c.id, got, c.ahead)
		}
	}
	if empty := impl.NewQueue(); impl.PlaceOf(empty, 7) != -1 || impl.AheadOf(empty, 7) != -1 {
		t.Error("the empty queue has an element")
	}
	full := fullQueue(t)
	if impl.PlaceOf(full, impl.MaxQueue) != impl.MaxQueue-1 || impl.AheadOf(full, impl.MaxQueue) != impl.MaxQueue-1 {
		t.Error("the last element of a full queue")
	}
}

func TestMoveBack(t *testing.T) {
	cases := []struct {
		ids  []int
		id   int
		want []int
	}{
		{[]int{7, 8, 9}, 7, []int{8, 9, 7}},
		{[]int{7, 8, 9}, 8, []int{7, 9, 8}},
		{[]int{7, 8, 9}, 9, []int{7, 8, 9}},
		{[]int{7}, 7, []int{7}},
		{idsUpTo(impl.MaxQueue), 1, append(idsUpTo(impl.MaxQueue)[1:], 1)},
		{idsUpTo(impl.MaxQueue), impl.MaxQueue, idsUpTo(impl.MaxQueue)},
	}
	for k, c := range cases {
		q := queueOf(t, c.ids...)
		got, ok := impl.MoveBack(q, c.id)
		if !ok {
			t.Errorf("case %d: MoveBack refuses", k)
		}
		checkQueue(t, "moved", got, c.want...)
		// The freed slot is the first free one, so the id keeps its slot.
		if place := impl.PlaceOf(q, c.id); impl.PlaceOf(got, c.id) != place || got.Last != place || got.Free != q.Free {
			t.Errorf("case %d: the slot %d becomes %v", k, place, got)
		}
	}
	q := queueOf(t, 7, 8)
	for _, id := range append(notIds(), 1, 9, top) {
		if got, ok := impl.MoveBack(q, id); ok || !sameQueue(got, q) {
			t.Errorf("MoveBack(%d) = %v, %v", id, got, ok)
		}
	}
	empty := impl.NewQueue()
	if got, ok := impl.MoveBack(empty, 7); ok || !sameQueue(got, empty) {
		t.Error("MoveBack of the empty queue")
	}
}

// plainQueue is what the queue must do, without links: the ids in order of
// insertion with their places, and the free places with the next one last.
type plainQueue struct {
	ids    []int
	places []int
	free   []int
}

func newPlainQueue() *plainQueue {
	m := &plainQueue{}
	for k := range impl.MaxQueue {
		m.free = append(m.free, impl.MaxQueue-1-k)
	}
	return m
}

func (m *plainQueue) push(id int) int {
	if len(m.free) == 0 || id < 1 || id > top || slices.Contains(m.ids, id) {
		return -1
	}
	place := m.free[len(m.free)-1]
	m.free = m.free[:len(m.free)-1]
	m.ids, m.places = append(m.ids, id), append(m.places, place)
	return place
}

func (m *plainQueue) remove(place int) int {
	k := slices.Index(m.places, place)
	if k < 0 {
		return 0
	}
	id := m.ids[k]
	m.ids, m.places = slices.Delete(m.ids, k, k+1), slices.Delete(m.places, k, k+1)
	m.free = append(m.free, place)
	return id
}

func (m *plainQueue) pop() int {
	if len(m.places) == 0 {
		return 0
	}
	return m.remove(m.places[0])
}

func (m *plainQueue) moveBack(id int) bool {
	k := slices.Index(m.ids, id)
	if k < 0 {
		return false
	}
	m.remove(m.places[k])
	m.push(id)
	return true
}

// queue is the one Queue that has these elements and free places.
func (m *plainQueue) queue() impl.Queue {
	q := impl.Queue{Slots: make([]impl.Slot, impl.MaxQueue), First: -1, Last: -1, Free: -1, Count: len(m.ids)}
	for k, place := range m.places {
		q.Slots[place] = impl.Slot{Id: m.ids[k], Prev: q.Last, Next: -1, Used: true}
		if k == 0 {
			q.First = place
		} else {
			q.Slots[q.Last].Next = place
		}
		q.Last = place
	}
	for _, place := range m.free {
		q.Slots[place] = impl.Slot{Prev: -1, Next: q.Free}
		q.Free = place
	}
	return q
}

// TestElementsLeaveInOrderOfInsertion plays long mixed sequences, most of them
// with more pushes than removals or the reverse, so that both ends are met.
func TestElementsLeaveInOrderOfInsertion(t *testing.T) {
	for seed := range 30 {
		q, m := impl.NewQueue(), newPlainQueue()
		draw := drawer(seed*7919 + 1)
		for step := range 400 {
			before := copyOfQueue(q)
			var next impl.Queue
			var got, want int
			switch kind := draw(10 + seed%7); {
			case kind < 2:
				next, got = impl.PopFront(q)
				want = m.pop()
			case kind < 4:
				place := draw(impl.MaxQueue+2) - 1
				next, got = impl.RemoveAt(q, place)
				want = m.remove(place)
			case kind < 5:
				id := draw(100)
				var ok bool
				next, ok = impl.MoveBack(q, id)
				if ok != m.moveBack(id) {
					t.Fatalf("seed %d step %d: MoveBack(%d) = %v", seed, step, id, ok)
				}
			default:
				id := draw(100)
				next, got = impl.PushBack(q, id)
				want = m.push(id)
			}
			if got != want || !sameQueue(next, m.queue()) || !impl.QueueOk(next) {
				t.Fatalf("seed %d step %d: got %d and %v, want %d and %v", seed, step, got, next, want, m.queue())
			}
			if !slices.Equal(impl.ListQueue(next), m.ids) {
				t.Fatalf("seed %d step %d: ListQueue = %v, want %v", seed, step, impl.ListQueue(next), m.ids)
			}
			if !sameQueue(q, before) {
				t.Fatalf("seed %d step %d: the argument changed", seed, step)
			}
			q = next
		}
	}
}

type brokenQueue struct {
	what string
	q    impl.Queue
}

type queueFault struct {
	what  string
	apply func(q *impl.Queue)
}

const lastSlot = impl.MaxQueue - 1

// The faults below are those of a queue with the elements 7, 9 and 5 in the
// slots 0, 2 and 1 and with the free slots 3 to 59.

func endAndFreeFaults() []queueFault {
	return []queueFault{
		{"no slots", func(q *impl.Queue) { q.Slots = nil }},
		{"a slot too few", func(q *impl.Queue) { q.Slots = q.Slots[:lastSlot]; q.Slots[lastSlot-1].Next = -1 }},
		{"a slot too many", func(q *impl.Queue) { q.Slots = append(q.Slots, impl.Slot{Prev: -1, Next: -1}) }},
		{"a linked slot too many", func(q *impl.Queue) {
			q.Slots = append(q.Slots, impl.Slot{Prev: -1, Next: -1})
			q.Slots[lastSlot].Next = impl.MaxQueue
		}},
		{"First is not the first", func(q *impl.Queue) { q.First = 2 }},
		{"First is free", func(q *impl.Queue) { q.First = 3 }},
		{"First is no slot", func(q *impl.Queue) { q.First = -1 }},
		{"Last is not the last", func(q *impl.Queue) { q.Last = 2 }},
		{"Last is free", func(q *impl.Queue) { q.Last = 3 }},
		{"Last is no slot", func(q *impl.Queue) { q.Last = -1 }},
		{"Count too small", func(q *impl.Queue) { q.Count = 2 }},
		{"Count too large", func(q *impl.Queue) { q.Count = 4 }},
		{"Count negative", func(q *impl.Queue) { q.Count = -3 }},
		{"Free is no slot", func(q *impl.Queue) { q.Free = -1 }},
		{"Free is used", func(q *impl.Queue) { q.Free = 1 }},
		{"Free skips a slot", func(q *impl.Queue) { q.Free = 4 }},
		{"a free slot is skipped", func(q *impl.Queue) { q.Slots[10].Next = 12 }},
		{"the free list ends early", func(q *impl.Queue) { q.Slots[10].Next = -1 }},
		{"the free list is a circle", func(q *impl.Queue) { q.Slots[lastSlot].Next = 3 }},
		{"the free list ends in a circle", func(q *impl.Queue) { q.Slots[lastSlot].Next = lastSlot }},
		{"the free list goes on in the used one", func(q *impl.Queue) { q.Slots[lastSlot].Next = 0 }},
		{"a free slot with an Id", func(q *impl.Queue) { q.Slots[20].Id = 4 }},
		{"the first free slot with an Id", func(q *impl.Queue) { q.Slots[3].Id = -1 }},
		{"a free slot with a Prev", func(q *impl.Queue) { q.Slots[20].Prev = 19 }},
		{"a free slot with Prev 0", func(q *impl.Queue) { q.Slots[20].Prev = 0 }},
		{"a free slot with Prev -2", func(q *impl.Queue) { q.Slots[lastSlot].Prev = -2 }},
		{"a free slot that is used", func(q *impl.Queue) { q.Slots[20].Used = true }},
	}
}

func usedFaults() []queueFault {
	return []queueFault{
		{"a used slot that is free", func(q *impl.Queue) { q.Slots[2].Used = false }},
		{"a used slot outside the list", func(q *impl.Queue) {
			q.Slots[3] = impl.Slot{Id: 4, Prev: -1, Next: -1, Used: true}
			q.Free = 4
		}},
		{"a counted used slot outside the list", func(q *impl.Queue) {
			q.Slots[3] = impl.Slot{Id: 4, Prev: -1, Next: -1, Used: true}
			q.Free, q.Count = 4, 4
		}},
		{"a slot in neither list", func(q *impl.Queue) { q.Slots[58].Next = -1; q.Slots[59] = impl.Slot{} }},
		{"the list is a circle", func(q *impl.Queue) { q.Slots[1].Next = 0 }},
		{"the list is a whole circle", func(q *impl.Queue) { q.Slots[1].Next = 0; q.Slots[0].Prev = 1 }},
		{"the list ends in a circle", func(q *impl.Queue) { q.Slots[1].Next = 1 }},
		{"the list goes on in the free one", func(q *impl.Queue) { q.Slots[1].Next = 3 }},
		{"the list ends early", func(q *impl.Queue) { q.Slots[2].Next = -1 }},
		{"the list ends early, as Last and Count say", func(q *impl.Queue) {
			q.Slots[2].Next, q.Last, q.Count = -1, 2, 2
		}},
		{"the list skips a slot", func(q *impl.Queue) { q.Slots[0].Next = 1 }},
		{"First with a Prev", func(q *impl.Queue) { q.Slots[0].Prev = 1 }},
		{"First with Prev -2", func(q *impl.Queue) { q.Slots[0].Prev = -2 }},
		{"a Prev that is not the predecessor", func(q *impl.Queue) { q.Slots[1].Prev = 0 }},
		{"a Prev of no slot", func(q *impl.Queue) { q.Slots[2].Prev = -1 }},
		{"a Prev out of range", func(q *impl.Queue) { q.Slots[2].Prev = impl.MaxQueue }},
		{"an Id twice", func(q *impl.Queue) { q.Slots[1].Id = 7 }},
		{"an Id twice, counted once", func(q *impl.Queue) { q.Slots[1].Id, q.Count = 7, 2 }},
		{"an Id 0", func(q *impl.Queue) { q.Slots[1].Id = 0 }},
		{"a negative Id", func(q *impl.Queue) { q.Slots[0].Id = -7 }},
		{"an Id above MaxTick", func(q *impl.Queue) { q.Slots[2].Id = top + 1 }},
		{"a huge Id", func(q *impl.Queue) { q.Slots[2].Id = math.MaxInt }},
	}
}

func brokenQueues(t *testing.T) []brokenQueue {
	t.Helper()
	good := queueOf(t, 7, 8, 9)
	good, _ = impl.RemoveAt(good, 1)
	good, _ = impl.PushBack(good, 5)
	checkQueue(t, "the queue to be broken", good, 7, 9, 5)
	var list []brokenQueue
	add := func(what string, q impl.Queue, change func(q *impl.Queue)) {
		q = copyOfQueue(q)
		change(&q)
		list = append(list, brokenQueue{what, q})
	}
	for _, f := range append(endAndFreeFaults(), usedFaults()...) {
		add(f.what, good, f.apply)
	}
	for _, link := range []int{-2, impl.MaxQueue, impl.MaxQueue + 1, math.MinInt, math.MaxInt} {
		add("First out of range", good, func(q *impl.Queue) { q.First = link })
		add("Last out of range", good, func(q *impl.Queue) { q.Last = link })
		add("Free out of range", good, func(q *impl.Queue) { q.Free = link })
		for _, place := range []int{0, 1, 3, lastSlot} {
			add("Next out of range", good, func(q *impl.Queue) { q.Slots[place].Next = link })
			add("Prev out of range", good, func(q *impl.Queue) { q.Slots[place].Prev = link })
		}
		add("First of an empty queue", impl.NewQueue(), func(q *impl.Queue) { q.First = link })
		add("Last of an empty queue", impl.NewQueue(), func(q *impl.Queue) { q.Last = link })
		add("Free of a full queue", fullQueue(t), func(q *impl.Queue) { q.Free = link })
	}
	add("First 0 of an empty queue", impl.NewQueue(), func(q *impl.Queue) { q.First = 0 })
	add("Last 0 of an empty queue", impl.NewQueue(), func(q *impl.Queue) { q.Last = 0 })
	add("Count 1 of an empty queue", impl.NewQueue(), func(q *impl.Queue) { q.Count = 1 })
	add("Free 0 of a full queue", fullQueue(t), func(q *impl.Queue) { q.Free = 0 })
	add("a full circle", fullQueue(t), func(q *impl.Queue) { q.Slots[lastSlot].Next, q.Slots[0].Prev = 0, lastSlot })
	add("the zero value", impl.Queue{}, func(q *impl.Queue) {})
	add("only zero slots", impl.Queue{Slots: make([]impl.Slot, impl.MaxQueue)}, func(q *impl.Queue) {})
	return list
}

func TestInvalidQueues(t *testing.T) {
	for _, c := range brokenQueues(t) {
		q, before := c.q, copyOfQueue(c.q)
		if impl.QueueOk(q) {
			t.Errorf("%s: QueueOk is true", c.what)
		}
		if got, place := impl.PushBack(q, 100); place != -1 || !sameQueue(got, before) {
			t.Errorf("%s: PushBack = %v, %d", c.what, got, place)
		}
		if got, id := impl.PopFront(q); id != 0 || !sameQueue(got, before) {
			t.Errorf("%s: PopFront = %v, %d", c.what, got, id)
		}
		for _, place := range []int{0, 1, 2, 3} {
			if got, id := impl.RemoveAt(q, place); id != 0 || !sameQueue(got, before) {
				t.Errorf("%s: RemoveAt(%d) = %v, %d", c.what, place, got, id)
			}
		}
		for _, id := range []int{7, 9, 5, 1} {
			if got, ok := impl.MoveBack(q, id); ok || !sameQueue(got, before) {
				t.Errorf("%s: MoveBack(%d) = %v, %v", c.what, id, got, ok)
			}
			if place, ahead := impl.PlaceOf(q, id), impl.AheadOf(q, id); place != -1 || ahead != -1 {
				t.Errorf("%s: PlaceOf(%d) = %d, AheadOf = %d", c.what, id, place, ahead)
			}
		}
		if got := impl.ListQueue(q); got != nil {
			t.Errorf("%s: ListQueue = %v", c.what, got)
		}
		if !sameQueue(q, before) {
			t.Errorf("%s: the argument changed", c.what)
		}
	}
}

// TestAnyOneChangeBreaksAQueue sets each field of each slot to each other
// value in and near its range; only another Id can leave the queue valid.
func TestAnyOneChangeBreaksAQueue(t *testing.T) {
	good := queueOf(t, 7, 8, 9, 4)
	good, _ = impl.RemoveAt(good, 1)
	good, _ = impl.RemoveAt(good, 0)
	for place, s := range good.Slots {
		q := copyOfQueue(good)
		q.Slots[place].Used = !s.Used
		if impl.QueueOk(q) {
			t.Errorf("Used of slot %d may change", place)
		}
		for x := -2; x <= impl.MaxQueue; x++ {
			q.Slots[place] = s
			q.Slots[place].Prev = x
			if impl.QueueOk(q) != (x == s.Prev) {
				t.Errorf("Prev %d of slot %d", x, place)
			}
			q.Slots[place] = s
			q.Slots[place].Next = x
			if impl.QueueOk(q) != (x == s.Next) {
				t.Errorf("Next %d of slot %d", x, place)
			}
			q.Slots[place] = s
			q.Slots[place].Id = x
			want := x == s.Id || s.Used && x >= 1 && impl.PlaceOf(good, x) < 0
			if impl.QueueOk(q) != want {
				t.Errorf("Id %d of slot %d", x, place)
			}
		}
	}
}

func TestQueuesShareNoMemory(t *testing.T) {
	queues := []impl.Queue{impl.NewQueue(), queueOf(t, 7, 8, 9), fullQueue(t)}
	for _, c := range brokenQueues(t) {
		queues = append(queues, c.q)
	}
	for _, q := range queues {
		// Spare capacity must not be used for a result either.
		q.Slots = append(make([]impl.Slot, 0, 3*impl.MaxQueue), q.Slots...)
		before := copyOfQueue(q)
		var results []impl.Queue
		for _, id := range []int{100, 7, 0} {
			pushed, _ := impl.PushBack(q, id)
			moved, _ := impl.MoveBack(q, id)
			results = append(results, pushed, moved)
		}
		for _, place := range []int{-1, 0, 1, impl.MaxQueue} {
			removed, _ := impl.RemoveAt(q, place)
			results = append(results, removed)
		}
		popped, _ := impl.PopFront(q)
		results = append(results, popped)
		for _, r := range results {
			for k := range r.Slots {
				r.Slots[k] = impl.Slot{Id: -5, Prev: -5, Next: -5}
			}
			_ = append(r.Slots, impl.Slot{Id: -5})
		}
		for _, ids := range [][]int{impl.ListQueue(q), impl.ListQueue(q)} {
			for k := range ids {
				ids[k] = -5
			}
		}
		if !sameQueue(q, before) {
			t.Errorf("a change of a result changes the argument %v", before)
		}
		if spare := q.Slots[:cap(q.Slots)][len(q.Slots):]; slices.ContainsFunc(spare, func(s impl.Slot) bool { return s != impl.Slot{} }) {
			t.Error("a result uses the spare capacity of the argument")
		}
	}
}
