package tests

import (
	"cmp"
	"math"
	"slices"
	"testing"

	"loop.example/g00722/impl"
)

func sameHeap(a, b impl.Heap) bool { return slices.Equal(a.Items, b.Items) && a.Seq == b.Seq }

func copyOfHeap(h impl.Heap) impl.Heap {
	h.Items = slices.Clone(h.Items)
	return h
}

// heapOf schedules the ids 1, 2, 3 and so on at the given ticks.
func heapOf(t *testing.T, ats ...int) impl.Heap {
	t.Helper()
	var h impl.Heap
	for k, at := range ats {
		var ok bool
		if h, ok = impl.Schedule(h, k+1, at); !ok {
			t.Fatalf("Schedule refuses %d at %d", k+1, at)
		}
	}
	return h
}

// fullHeap holds MaxDue items; several share an At.
func fullHeap(t *testing.T) impl.Heap {
	t.Helper()
	var ats []int
	for k := range impl.MaxDue {
		ats = append(ats, k*37%50)
	}
	return heapOf(t, ats...)
}

func byDue(a, b impl.Due) int { return cmp.Or(cmp.Compare(a.At, b.At), cmp.Compare(a.Seq, b.Seq)) }

// orderOf lists the Ids by At and then by Seq.
func orderOf(items []impl.Due) []int {
	var ids []int
	for _, d := range slices.SortedFunc(slices.Values(items), byDue) {
		ids = append(ids, d.Id)
	}
	return ids
}

func checkHeap(t *testing.T, what string, h impl.Heap, seq int, items ...impl.Due) {
	t.Helper()
	if !impl.HeapOk(h) {
		t.Errorf("%s: the heap is invalid: %v", what, h)
	}
	if want := (impl.Heap{Items: items, Seq: seq}); !sameHeap(h, want) {
		t.Errorf("%s: got %v, want %v", what, h, want)
	}
}

func TestScheduleMovesUp(t *testing.T) {
	if impl.MaxDue != 100 {
		t.Errorf("MaxDue is %d", impl.MaxDue)
	}
	checkHeap(t, "empty", impl.Heap{}, 0)
	checkHeap(t, "one", heapOf(t, 5), 1, impl.Due{At: 5, Seq: 1, Id: 1})
	checkHeap(t, "ascending", heapOf(t, 1, 2, 3), 3,
		impl.Due{At: 1, Seq: 1, Id: 1}, impl.Due{At: 2, Seq: 2, Id: 2}, impl.Due{At: 3, Seq: 3, Id: 3})
	checkHeap(t, "descending", heapOf(t, 4, 3, 2, 1), 4,
		impl.Due{At: 1, Seq: 4, Id: 4}, impl.Due{At: 2, Seq: 3, Id: 3}, impl.Due{At: 3, Seq: 2, Id: 2}, impl.Due{At: 4, Seq: 1, Id: 1})
	checkHeap(t, "equal", heapOf(t, 7, 7, 7), 3,
		impl.Due{At: 7, Seq: 1, Id: 1}, impl.Due{At: 7, Seq: 2, Id: 2}, impl.Due{At: 7, Seq: 3, Id: 3})
	checkHeap(t, "up to the middle", heapOf(t, 1, 5, 6, 7, 8, 9, 9, 3), 8,
		impl.Due{At: 1, Seq: 1, Id: 1}, impl.Due{At: 3, Seq: 8, Id: 8}, impl.Due{At: 6, Seq: 3, Id: 3}, impl.Due{At: 5, Seq: 2, Id: 2},
		impl.Due{At: 8, Seq: 5, Id: 5}, impl.Due{At: 9, Seq: 6, Id: 6}, impl.Due{At: 9, Seq: 7, Id: 7}, impl.Due{At: 7, Seq: 4, Id: 4})
}

func TestScheduleRefuses(t *testing.T) {
	h := heapOf(t, 5, 3, 9)
	for _, at := range notTicks() {
		for _, id := range []int{1, 4, 0} {
			if got, ok := impl.Schedule(h, id, at); ok || !sameHeap(got, h) {
				t.Errorf("Schedule(%d, %d) = %v, %v", id, at, got, ok)
			}
		}
	}
	for _, id := range notIds() {
		if got, ok := impl.Schedule(h, id, 5); ok || !sameHeap(got, h) {
			t.Errorf("Schedule(%d, 5) = %v, %v", id, got, ok)
		}
	}
	for _, id := range []int{1, 2, 3, 4, top - 1, top} {
		for _, at := range []int{0, 1, top - 1, top} {
			got, ok := impl.Schedule(h, id, at)
			if !ok || !impl.HeapOk(got) || impl.DueOf(got, id) != at || got.Seq != 4 {
				t.Errorf("Schedule(%d, %d) = %v, %v", id, at, got, ok)
			}
		}
	}
}

func TestScheduleAnId(t *testing.T) {
	again := func(id, at int, ats ...int) impl.Heap {
		h, ok := impl.Schedule(heapOf(t, ats...), id, at)
		if !ok {
			t.Errorf("Schedule(%d, %d) refuses", id, at)
		}
		return h
	}
	one, two, three := impl.Due{At: 1, Seq: 1, Id: 1}, impl.Due{At: 2, Seq: 2, Id: 2}, impl.Due{At: 3, Seq: 3, Id: 3}
	checkHeap(t, "the only one", again(1, 9, 5), 2, impl.Due{At: 9, Seq: 2, Id: 1})
	checkHeap(t, "the only one at the same tick", again(1, 5, 5), 2, impl.Due{At: 5, Seq: 2, Id: 1})
	checkHeap(t, "the first to the end", again(1, 9, 1, 2, 3), 4, two, three, impl.Due{At: 9, Seq: 4, Id: 1})
	checkHeap(t, "the first stays first", again(1, 1, 1, 2, 3), 4, impl.Due{At: 1, Seq: 4, Id: 1}, three, two)
	checkHeap(t, "the last to the front", again(3, 0, 1, 2, 3), 4, impl.Due{At: 0, Seq: 4, Id: 3}, two, one)
	checkHeap(t, "the last stays last", again(3, 3, 1, 2, 3), 4, one, two, impl.Due{At: 3, Seq: 4, Id: 3})
	checkHeap(t, "the middle", again(2, 3, 1, 2, 3), 4, one, three, impl.Due{At: 3, Seq: 4, Id: 2})
	// Among equal deadlines the one that is scheduled again goes to the end.
	if got := impl.SortedIds(again(1, 7, 7, 7, 7)); !slices.Equal(got, []int{2, 3, 1}) {
		t.Errorf("equal deadlines: %v", got)
	}
}

func TestFullHeap(t *testing.T) {
	h := fullHeap(t)
	if len(h.Items) != impl.MaxDue || !impl.HeapOk(h) {
		t.Fatalf("the full heap: %v", h)
	}
	for _, at := range []int{0, 25, top} {
		if got, ok := impl.Schedule(h, impl.MaxDue+1, at); ok || !sameHeap(got, h) {
			t.Errorf("a full heap takes a deadline at %d", at)
		}
		got, ok := impl.Schedule(h, 7, at)
		if !ok || len(got.Items) != impl.MaxDue || got.Seq != impl.MaxDue+1 || impl.DueOf(got, 7) != at || !impl.HeapOk(got) {
			t.Errorf("a full heap does not move 7 to %d: %v", at, got)
		}
	}
	if got := impl.SortedIds(h); !slices.Equal(got, orderOf(h.Items)) {
		t.Errorf("SortedIds = %v, want %v", got, orderOf(h.Items))
	}
	left, ids := impl.PopDue(h, top)
	if !slices.Equal(ids, orderOf(h.Items)) || len(left.Items) != 0 || left.Seq != impl.MaxDue {
		t.Errorf("PopDue = %v, %v", left, ids)
	}
	less, ok := impl.CancelDue(h, 50)
	if !ok || len(less.Items) != impl.MaxDue-1 {
		t.Fatalf("CancelDue = %v, %v", less, ok)
	}
	if got, ok := impl.Schedule(less, top, top); !ok || len(got.Items) != impl.MaxDue {
		t.Errorf("the last free place: %v, %v", got, ok)
	}
}

func TestEmptyHeap(t *testing.T) {
	for _, h := range []impl.Heap{{}, {Items: []impl.Due{}}, {Seq: 8}, {Seq: top}} {
		if !impl.HeapOk(h) {
			t.Errorf("%v is invalid", h)
		}
		if d, ok := impl.NextDue(h); ok || d != (impl.Due{}) {
			t.Errorf("NextDue(%v) = %v, %v", h, d, ok)
		}
		if got, ok := impl.CancelDue(h, 1); ok || !sameHeap(got, h) {
			t.Errorf("CancelDue(%v) = %v, %v", h, got, ok)
		}
		for _, now := range []int{math.MinInt, -1, 0, top, math.MaxInt} {
			if got, ids := impl.PopDue(h, now); len(ids) != 0 || !sameHeap(got, h) {
				t.Errorf("PopDue(%v, %d) = %v, %v", h, now, got, ids)
			}
		}
		if impl.DueOf(h, 1) != -1 || impl.DueOf(h, 0) != -1 || len(impl.SortedIds(h)) != 0 {
			t.Errorf("%v has an item", h)
		}
	}
}

func TestSeqAtTheEnd(t *testing.T) {
	h, ok := impl.Schedule(impl.Heap{Seq: top - 1}, 4, 6)
	if !ok {
		t.Fatal("the last Seq is refused")
	}
	checkHeap(t, "the last Seq", h, top, impl.Due{At: 6, Seq: top, Id: 4})
	for _, id := range []int{4, 5} {
		if got, ok := impl.Schedule(h, id, 1); ok || !sameHeap(got, h) {
			t.Errorf("after the last Seq Schedule(%d) = %v, %v", id, got, ok)
		}
	}
	if got, ok := impl.Schedule(impl.Heap{Seq: top}, 1, 1); ok || !sameHeap(got, impl.Heap{Seq: top}) {
		t.Errorf("after the last Seq an empty heap gives %v, %v", got, ok)
	}
	empty, ids := impl.PopDue(h, 6)
	if !slices.Equal(ids, []int{4}) {
		t.Errorf("PopDue returns %v", ids)
	}
	checkHeap(t, "emptied", empty, top)
}

func TestCancelDueMovesTheLastItem(t *testing.T) {
	// Below the items 2 and 3 lie their children; the last item is 7.
	wide := heapOf(t, 1, 10, 2, 11, 12, 3, 4)
	cases := []struct {
		what string
		h    impl.Heap
		id   int
		left []int
	}{
		{"the only one", heapOf(t, 5), 1, nil},
		{"the first of two", heapOf(t, 5, 6), 1, []int{2}},
		{"the last of two", heapOf(t, 5, 6), 2, []int{1}},
		{"the last of seven", wide, 7, []int{1, 2, 3, 4, 5, 6}},
		{"the first: down on the right", wide, 1, []int{3, 2, 6, 4, 5, 7}},
		{"a leaf: up", wide, 4, []int{1, 7, 3, 2, 5, 6}},
		{"another leaf: up", wide, 5, []int{1, 7, 3, 4, 2, 6}},
		{"an inner item: up is not needed", wide, 2, []int{1, 7, 3, 4, 5, 6}},
		{"an inner item: down to its only child", wide, 3, []int{1, 2, 6, 4, 5, 7}},
		{"equal: down to the left", heapOf(t, 1, 2, 2, 3), 1, []int{2, 4, 3}},
		{"equal to the last: down", heapOf(t, 7, 7, 7, 7), 1, []int{2, 4, 3}},
		{"down two levels", heapOf(t, 1, 2, 9, 3, 4, 10, 11, 12), 1, []int{2, 4, 3, 8, 5, 6, 7}},
	}
	for _, c := range cases {
		got, ok := impl.CancelDue(c.h, c.id)
		var ids []int
		for _, d := range got.Items {
			ids = append(ids, d.Id)
			if d.At != impl.DueOf(c.h, d.Id) {
				t.Errorf("%s: the item %v is new", c.what, d)
			}
		}
		if !ok || !slices.Equal(ids, c.left) || got.Seq != c.h.Seq || !impl.HeapOk(got) {
			t.Errorf("%s: %v, %v, want the Ids %v", c.what, got, ok, c.left)
		}
	}
	for _, id := range append(notIds(), 8, top) {
		if got, ok := impl.CancelDue(wide, id); ok || !sameHeap(got, wide) {
			t.Errorf("CancelDue(%d) = %v, %v", id, got, ok)
		}
	}
}

func TestNextDueAndDueOf(t *testing.T) {
	h := heapOf(t, 5, 0, 9, top, 0)
	if d, ok := impl.NextDue(h); !ok || d != (impl.Due{At: 0, Seq: 2, Id: 2}) {
		t.Errorf("NextDue = %v, %v", d, ok)
	}
	for id, at := range []int{-1, 5, 0, 9, top, 0, -1} {
		if got := impl.DueOf(h, id); got != at {
			t.Errorf("DueOf(%d) = %d, want %d", id, got, at)
		}
	}
	for _, id := range append(notIds(), top) {
		if got := impl.DueOf(h, id); got != -1 {
			t.Errorf("DueOf(%d) = %d", id, got)
		}
	}
	h, _ = impl.Schedule(h, top, 3)
	if got := impl.DueOf(h, top); got != 3 {
		t.Errorf("DueOf(MaxTick) = %d", got)
	}
}

func TestPopDue(t *testing.T) {
	h := heapOf(t, 5, 0, 9, top, 5, 0)
	cases := []struct {
		now int
		ids []int
	}{
		{math.MinInt, nil}, {-1, nil}, {0, []int{2, 6}}, {4, []int{2, 6}}, {5, []int{2, 6, 1, 5}}, {8, []int{2, 6, 1, 5}},
		{9, []int{2, 6, 1, 5, 3}}, {top - 1, []int{2, 6, 1, 5, 3}}, {top, []int{2, 6, 1, 5, 3, 4}},
		{top + 1, []int{2, 6, 1, 5, 3, 4}}, {math.MaxInt, []int{2, 6, 1, 5, 3, 4}},
	}
	for _, c := range cases {
		got, ids := impl.PopDue(h, c.now)
		if !slices.Equal(ids, c.ids) || len(got.Items) != len(h.Items)-len(ids) || got.Seq != h.Seq || !impl.HeapOk(got) {
			t.Errorf("PopDue(%d) = %v, %v, want %v", c.now, got, ids, c.ids)
		}
		want := h
		for _, id := range ids {
			want, _ = impl.CancelDue(want, id)
		}
		if !sameHeap(got, want) {
			t.Errorf("PopDue(%d) leaves %v, CancelDue leaves %v", c.now, got, want)
		}
	}
}

// plainHeap does what the chapter says of the positions, step by step.
type plainHeap struct {
	items []impl.Due
	seq   int
}

func (m *plainHeap) before(j, k int) bool { return byDue(m.items[j], m.items[k]) < 0 }

func (m *plainHeap) swap(j, k int) { m.items[j], m.items[k] = m.items[k], m.items[j] }

func (m *plainHeap) up(k int) {
	if k > 0 && m.before(k, (k-1)/2) {
		m.swap(k, (k-1)/2)
		m.up((k - 1) / 2)
	}
}

func (m *plainHeap) down(k int) {
	left, right := 2*k+1, 2*k+2
	child := left
	if right < len(m.items) && m.before(right, left) {
		child = right
	}
	if child < len(m.items) && m.before(child, k) {
		m.swap(k, child)
		m.down(child)
	}
}

func (m *plainHeap) cancel(id int) bool {
	k := slices.IndexFunc(m.items, func(d impl.Due) bool { return d.Id == id })
	if k < 0 {
		return false
	}
	last := len(m.items) - 1
	m.items[k] = m.items[last]
	m.items = m.items[:last]
	if k < last {
		m.up(k)
		m.down(k)
	}
	return true
}

func (m *plainHeap) schedule(id, at int) bool {
	held := slices.ContainsFunc(m.items, func(d impl.Due) bool { return d.Id == id })
	if id < 1 || id > top || at < 0 || at > top || !held && len(m.items) == impl.MaxDue || m.seq == top {
		return false
	}
	m.cancel(id)
	m.seq++
	m.items = append(m.items, impl.Due{At: at, Seq: m.seq, Id: id})
	m.up(len(m.items) - 1)
	return true
}

func (m *plainHeap) pop(now int) []int {
	var due []impl.Due
	for _, d := range m.items {
		if d.At <= now {
			due = append(due, d)
		}
	}
	ids := orderOf(due)
	for _, id := range ids {
		m.cancel(id)
	}
	return ids
}

// TestDeadlinesLeaveInOrder plays long mixed sequences with few different
// ticks, some of which fill the heap.
func TestDeadlinesLeaveInOrder(t *testing.T) {
	for seed := range 24 {
		var h impl.Heap
		m := &plainHeap{}
		draw := drawer(seed*7919 + 1)
		for step := range 300 {
			before := copyOfHeap(h)
			var next impl.Heap
			var got, want []int
			var ok, wantOk bool
			switch kind := draw(20); {
			case kind < 1+seed%3:
				now := draw(6)
				next, got = impl.PopDue(h, now)
				want = m.pop(now)
			case kind < 6:
				id := draw(130)
				next, ok = impl.CancelDue(h, id)
				wantOk = m.cancel(id)
			default:
				id, at := draw(130), draw(40)-1
				next, ok = impl.Schedule(h, id, at)
				wantOk = m.schedule(id, at)
			}
			if ok != wantOk || !slices.Equal(got, want) || !slices.Equal(next.Items, m.items) || next.Seq != m.seq || !impl.HeapOk(next) {
				t.Fatalf("seed %d step %d: got %v, %v, %v, want %v, %v, %v", seed, step, ok, got, next, wantOk, want, m.items)
			}
			if ids := impl.SortedIds(next); !slices.Equal(ids, orderOf(m.items)) {
				t.Fatalf("seed %d step %d: SortedIds = %v of %v", seed, step, ids, next)
			}
			if !sameHeap(h, before) {
				t.Fatalf("seed %d step %d: the argument changed", seed, step)
			}
			h = next
		}
	}
}

func TestPlayHeap(t *testing.T) {
	ops := [][]int{
		{0, 1, 5}, {0, 2, 5}, {0, 3, 0}, {0, 1, 5}, {0, 0, 5}, {0, 4, -1}, {0, top + 1, 5}, {0, 4, top + 1},
		{1, 9, 0}, {2, -1, 0}, {2, 4, -77}, {1, 3, 0}, {2, 5, top}, {2, 5, 0}, {0, top, top}, {1, top, -3}, {0, 6, top}, {2, top, 0},
		{0, 8, 8}, {0, 7, 7},
	}
	want := []int{1, 1, 1, 1, 0, 0, 0, 0, 0, -1, 3, -1, 0, 2, 1, -1, -1, 1, 1, 1, 6, -1, 1, 1}
	h, told := impl.PlayHeap(ops)
	if !slices.Equal(told, want) {
		t.Errorf("PlayHeap tells %v, want %v", told, want)
	}
	checkHeap(t, "played", h, 8, impl.Due{At: 7, Seq: 8, Id: 7}, impl.Due{At: 8, Seq: 7, Id: 8})
	if h, told := impl.PlayHeap(nil); len(told) != 0 || !sameHeap(h, impl.Heap{}) {
		t.Errorf("PlayHeap(nil) = %v, %v", h, told)
	}
}

func TestPlayHeapUnknownOperations(t *testing.T) {
	bad := [][]int{
		nil, {}, {0}, {1}, {2}, {0, 1}, {1, 1}, {2, 9}, {0, 1, 2, 3}, {1, 1, 0, 0}, {2, 9, 0, 0},
		{3, 1, 5}, {-1, 1, 5}, {-2, 1, 5}, {math.MinInt, 1, 5}, {math.MaxInt, 1, 5},
	}
	for _, op := range bad {
		h, told := impl.PlayHeap([][]int{{0, 1, 5}, op, {2, 4, 0}})
		if !slices.Equal(told, []int{1, -2, -1}) || len(h.Items) != 1 || h.Seq != 1 {
			t.Errorf("%v: %v, %v", op, h, told)
		}
	}
}

func TestPlayHeapLength(t *testing.T) {
	var ops [][]int
	for k := range impl.MaxList {
		ops = append(ops, []int{0, k + 1, top - k})
	}
	before := slices.Clone(ops)
	h, told := impl.PlayHeap(ops)
	if len(told) != impl.MaxList || len(h.Items) != impl.MaxDue || h.Seq != impl.MaxDue || !impl.HeapOk(h) {
		t.Errorf("MaxList operations: %d results, %v", len(told), h)
	}
	for k, r := range told {
		if (r == 1) != (k < impl.MaxDue) {
			t.Errorf("operation %d has the result %d", k, r)
		}
	}
	h, told = impl.PlayHeap(append(ops, []int{2, top, 0}))
	if len(told) != 0 || len(h.Items) != 0 || h.Seq != 0 {
		t.Errorf("more than MaxList operations: %v, %v", h, told)
	}
	for k := range ops {
		if !slices.Equal(ops[k], before[k]) || ops[k][1] != k+1 || ops[k][2] != top-k {
			t.Errorf("the operation %d changed", k)
		}
	}
}

type brokenHeap struct {
	what string
	h    impl.Heap
}

// brokenHeaps are heaps with one fault each, among them faults of the first,
// a middle and the last item.
func brokenHeaps(t *testing.T) []brokenHeap {
	t.Helper()
	good := heapOf(t, 3, 4, 5, 4, 6, 7)
	var list []brokenHeap
	add := func(what string, h impl.Heap, change func(h *impl.Heap)) {
		h = copyOfHeap(h)
		change(&h)
		list = append(list, brokenHeap{what, h})
	}
	last := len(good.Items) - 1
	for _, k := range []int{0, 2, last} {
		for _, x := range notTicks() {
			add("an At that is no tick", good, func(h *impl.Heap) { h.Items[k].At = x })
		}
		for _, x := range append(notIds(), good.Seq+1) {
			add("a Seq out of range", good, func(h *impl.Heap) { h.Items[k].Seq = x })
		}
		for _, x := range notIds() {
			add("an Id out of range", good, func(h *impl.Heap) { h.Items[k].Id = x })
		}
	}
	for _, k := range []int{0, 2, last - 1} {
		add("a Seq twice", good, func(h *impl.Heap) { h.Items[last].Seq = h.Items[k].Seq })
		add("an Id twice", good, func(h *impl.Heap) { h.Items[last].Id = h.Items[k].Id })
	}
	for k := 1; k <= last; k++ {
		add("an At before its parent", good, func(h *impl.Heap) { h.Items[k].At = h.Items[(k-1)/2].At - 1 })
		add("a Seq before its parent", heapOf(t, 4, 4, 4, 4, 4, 4), func(h *impl.Heap) {
			parent := (k - 1) / 2
			h.Items[k].Seq, h.Items[parent].Seq = h.Items[parent].Seq, h.Items[k].Seq
		})
	}
	for _, x := range append(notTicks(), 0, good.Seq-1) {
		add("Seq of the heap out of range", good, func(h *impl.Heap) { h.Seq = x })
	}
	for _, x := range notTicks() {
		add("Seq of an empty heap out of range", impl.Heap{}, func(h *impl.Heap) { h.Seq = x })
	}
	add("an item too many", fullHeap(t), func(h *impl.Heap) {
		h.Seq++
		h.Items = append(h.Items, impl.Due{At: top, Seq: h.Seq, Id: top})
	})
	add("a zero item", impl.Heap{}, func(h *impl.Heap) { h.Items = []impl.Due{{}} })
	return list
}

func TestInvalidHeaps(t *testing.T) {
	for _, c := range brokenHeaps(t) {
		h, before := c.h, copyOfHeap(c.h)
		if impl.HeapOk(h) {
			t.Errorf("%s: HeapOk(%v)", c.what, h)
		}
		for _, id := range []int{1, 2, 3, 5, 6, 500} {
			if got, ok := impl.Schedule(h, id, 5); ok || !sameHeap(got, before) {
				t.Errorf("%s: Schedule(%d) = %v, %v", c.what, id, got, ok)
			}
			if got, ok := impl.CancelDue(h, id); ok || !sameHeap(got, before) {
				t.Errorf("%s: CancelDue(%d) = %v, %v", c.what, id, got, ok)
			}
			if got := impl.DueOf(h, id); got != -1 {
				t.Errorf("%s: DueOf(%d) = %d", c.what, id, got)
			}
		}
		if d, ok := impl.NextDue(h); ok || d != (impl.Due{}) {
			t.Errorf("%s: NextDue = %v, %v", c.what, d, ok)
		}
		for _, now := range []int{math.MinInt, -1, 0, 5, top, math.MaxInt} {
			if got, ids := impl.PopDue(h, now); ids != nil || !sameHeap(got, before) {
				t.Errorf("%s: PopDue(%d) = %v, %v", c.what, now, got, ids)
			}
		}
		if ids := impl.SortedIds(h); ids != nil {
			t.Errorf("%s: SortedIds = %v", c.what, ids)
		}
		if !sameHeap(h, before) {
			t.Errorf("%s: the argument changed", c.what)
		}
	}
}

func TestValidHeapsAtTheLimits(t *testing.T) {
	heaps := []impl.Heap{
		fullHeap(t),
		{Items: []impl.Due{{At: 0, Seq: 1, Id: 1}}, Seq: 1},
		{Items: []impl.Due{{At: top, Seq: top, Id: top}}, Seq: top},
		{Items: []impl.Due{{At: 5, Seq: 1, Id: 3}, {At: 5, Seq: 4, Id: 2}, {At: 5, Seq: 2, Id: 9}}, Seq: 6},
	}
	for _, h := range heaps {
		if !impl.HeapOk(h) {
			t.Errorf("%v is invalid", h)
		}
		if got := impl.SortedIds(h); !slices.Equal(got, orderOf(h.Items)) {
			t.Errorf("SortedIds(%v) = %v", h, got)
		}
	}
}

func TestHeapsShareNoMemory(t *testing.T) {
	heaps := []impl.Heap{{}, heapOf(t, 5), heapOf(t, 5, 3, 9, 3), fullHeap(t)}
	for _, c := range brokenHeaps(t) {
		heaps = append(heaps, c.h)
	}
	for _, h := range heaps {
		// Spare capacity must not be used for a result either.
		h.Items = append(make([]impl.Due, 0, 3*impl.MaxDue), h.Items...)
		before := copyOfHeap(h)
		var results []impl.Heap
		for _, id := range []int{0, 1, 2, 500} {
			scheduled, _ := impl.Schedule(h, id, 4)
			cancelled, _ := impl.CancelDue(h, id)
			results = append(results, scheduled, cancelled)
		}
		for _, now := range []int{-1, 4, top} {
			popped, _ := impl.PopDue(h, now)
			results = append(results, popped)
		}
		for _, r := range results {
			for k := range r.Items {
				r.Items[k] = impl.Due{At: -5, Seq: -5, Id: -5}
			}
			_ = append(r.Items, impl.Due{At: -5})
		}
		if !sameHeap(h, before) {
			t.Errorf("a change of a result changes the argument %v", before)
		}
		if spare := h.Items[:cap(h.Items)][len(h.Items):]; slices.ContainsFunc(spare, func(d impl.Due) bool { return d != impl.Due{} }) {
			t.Error("a result uses the spare capacity of the argument")
		}
	}
}
