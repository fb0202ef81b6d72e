package tests

import (
	"math"
	"reflect"
	"slices"
	"testing"

	"loop.example/g01407/impl"
)

func item(m int, v ...int) impl.Item { return impl.Item{M: m, V: v} }

func queue(size int, items ...impl.Item) impl.Queue { return impl.Queue{Cap: size, Items: items} }

// itemAt is one of many right items, no two alike: each M comes with each size.
func itemAt(n int) impl.Item {
	x := impl.Item{M: n % impl.MaxMicro, V: rightRow(1+n%impl.MaxDim, n)}
	x.V[0] = n
	return x
}

func itemsFrom(n, count int) []impl.Item {
	var l []impl.Item
	for i := range count {
		l = append(l, itemAt(n+i))
	}
	return l
}

func sameItem(a, b impl.Item) bool { return a.M == b.M && slices.Equal(a.V, b.V) }

func sameQueue(a, b impl.Queue) bool {
	return a.Cap == b.Cap && slices.EqualFunc(a.Items, b.Items, sameItem)
}

func isZeroItem(x impl.Item) bool { return x.M == 0 && len(x.V) == 0 }

// eachRightQueue calls f with queues of each Cap, with each count of items that it takes.
func eachRightQueue(f func(q impl.Queue)) {
	for size := 1; size <= 5; size++ {
		for count := range size + 1 {
			for n := range 31 {
				f(queue(size, itemsFrom(n, count)...))
			}
		}
	}
}

// wrongSizes are no Cap: by one out of the range, far out of it, and such as wrap around into it.
var wrongSizes = []int{0, -1, -2, -5, 6, 7, 255, 256, 257, 1 << 32, 1<<32 + 1, 1<<32 + 5, -1<<32 + 1, math.MaxInt, math.MinInt, math.MinInt + 1, math.MinInt + 5}

// wrongMicros are no M, likewise.
var wrongMicros = []int{-1, -2, -5, 5, 6, 7, 255, 256, 257, 1 << 32, 1<<32 + 1, -1 << 32, math.MaxInt, math.MinInt, math.MinInt + 4}

func wrongItems() []impl.Item {
	l := []impl.Item{{}, item(-1), item(5, make([]int, 7)...), item(-1, most+1), item(5, -most-1)}
	for _, m := range wrongMicros {
		l = append(l, item(m, 0), item(m, one, most, -most), item(m, 1, 2, 3, 4, 5, 6))
	}
	for i, v := range wrongRows() {
		l = append(l, impl.Item{M: i % 5, V: v})
	}
	return l
}

// wrongQueues are not right, each for one reason.
func wrongQueues() []impl.Queue {
	var l []impl.Queue
	for _, size := range wrongSizes {
		for count := range 8 {
			l = append(l, queue(size, itemsFrom(count, count)...))
		}
	}
	for size := 1; size <= 5; size++ {
		for _, count := range []int{size + 1, size + 2, 5 + size, 256 + size, 1000} {
			l = append(l, queue(size, itemsFrom(size, count)...))
		}
	}
	for i, x := range wrongItems() {
		size := 1 + i%5
		for at := range size {
			items := itemsFrom(i, size)
			items[at] = x
			// It is the last one, or there are more behind it; then there may be room.
			l = append(l, queue(size, items...), queue(size, items[:at+1]...), queue(5, items...))
		}
	}
	return l
}

// checkRight says where a queue is not answered as one that is right, just where right is true.
func checkRight(t *testing.T, q impl.Queue, right bool) {
	t.Helper()
	words := 0
	for _, x := range q.Items {
		if right {
			words += len(x.V)
		}
	}
	if got := impl.QueueOk(q); got != right {
		t.Errorf("QueueOk(%s) is %v", brief(q), got)
	}
	if got := impl.QueueWords(q); got != words {
		t.Errorf("QueueWords(%s) = %d, want %d", brief(q), got, words)
	}
}

// checkPush says where Push does not tell what comes of the items and x; where taken is false the queue is to stay as it is.
func checkPush(t *testing.T, q impl.Queue, x impl.Item, taken bool) impl.Queue {
	t.Helper()
	want := q
	if taken {
		want = queue(q.Cap, slices.Concat(q.Items, []impl.Item{x})...)
	}
	got, ok := impl.Push(q, x)
	if ok != taken || !sameQueue(got, want) {
		t.Fatalf("Push(%s, %s) = %s, %v, want %s, %v", brief(q), brief(x), brief(got), ok, brief(want), taken)
	}
	return got
}

// checkPop says where Pop does not tell the first item and what is left; where given is false the queue is to stay as it is.
func checkPop(t *testing.T, q impl.Queue, given bool) impl.Queue {
	t.Helper()
	want, first := q, impl.Item{}
	if given {
		want, first = queue(q.Cap, q.Items[1:]...), q.Items[0]
	}
	got, x, ok := impl.Pop(q)
	if ok != given || !sameQueue(got, want) || !sameItem(x, first) {
		t.Fatalf("Pop(%s) = %s, %s, %v, want %s, %s, %v", brief(q), brief(got), brief(x), ok, brief(want), brief(first), given)
	}
	return got
}

func TestQueueOkAndQueueWords(t *testing.T) {
	for _, c := range []struct {
		q     impl.Queue
		right bool
		words int
	}{
		// Empty ones.
		{impl.Queue{}, false, 0}, {impl.Queue{Cap: 1}, true, 0}, {impl.Queue{Cap: 5}, true, 0}, {impl.Queue{Cap: 1, Items: []impl.Item{}}, true, 0}, {impl.Queue{Cap: 5, Items: make([]impl.Item, 0, 9)}, true, 0}, {queue(2, itemsFrom(0, 3)[:0]...), true, 0},
		{impl.Queue{Cap: 6}, false, 0}, {impl.Queue{Cap: -1}, false, 0}, {impl.Queue{Cap: 6, Items: []impl.Item{}}, false, 0}, {impl.Queue{Items: []impl.Item{}}, false, 0},
		// Items of one number, of as many as there may be, with the least and the greatest M.
		{queue(1, item(0, 0)), true, 1}, {queue(1, item(4, 0)), true, 1}, {queue(1, item(0, 1, 2, 3, 4, 5, 6)), true, 6}, {queue(1, item(4, most, -most, most, -most, most, -most)), true, 6}, {queue(2, item(2, most)), true, 1}, {queue(5, item(3, -most, 0)), true, 2},
		// Several, full and with room; M may be as it is.
		{queue(2, item(0, 1), item(1, 2, 3)), true, 3}, {queue(2, item(1, 1), item(0, 2)), true, 2}, {queue(3, item(4, 1, 2, 3), item(4, 1, 2, 3), item(4, 1, 2, 3)), true, 9}, {queue(5, item(0, 1), item(2, 1, 2, 3, 4)), true, 5}, {queue(4, item(3, 1, 1), item(2, 1), item(1, 1, 1, 1)), true, 6},
		{queue(5, item(0, 1), item(1, 1, 1), item(2, 1, 1, 1), item(3, 1, 1, 1, 1), item(4, 1, 1, 1, 1, 1)), true, 15}, {queue(5, slices.Repeat([]impl.Item{item(0, 1, 2, 3, 4, 5, 6)}, 5)...), true, 30},
		// More items than Cap.
		{queue(1, item(0, 1), item(1, 1)), false, 0}, {queue(4, slices.Repeat([]impl.Item{item(0, 1)}, 5)...), false, 0}, {queue(5, slices.Repeat([]impl.Item{item(0, 1)}, 6)...), false, 0}, {queue(6, slices.Repeat([]impl.Item{item(0, 1)}, 6)...), false, 0}, {queue(6, item(0, 1)), false, 0}, {queue(0, item(0, 1)), false, 0}, {queue(-1, item(0, 1)), false, 0},
		{queue(2, itemsFrom(0, 3)[:2]...), true, 3}, {queue(2, itemsFrom(0, 3)...), false, 0},
		// An item that is not right.
		{queue(1, impl.Item{}), false, 0}, {queue(1, item(0)), false, 0}, {queue(1, impl.Item{V: []int{}}), false, 0}, {queue(1, item(0, 1, 2, 3, 4, 5, 6, 7)), false, 0}, {queue(1, item(0, most+1)), false, 0}, {queue(1, item(0, -most-1)), false, 0}, {queue(1, item(0, 1, 2, 3, 4, 5, most+1)), false, 0},
		{queue(1, item(-1, 0)), false, 0}, {queue(1, item(5, 0)), false, 0}, {queue(1, item(4, 0)), true, 1}, {queue(5, item(0, 1), item(1, 1), item(5, 1)), false, 0}, {queue(5, item(-1, 1), item(1, 1)), false, 0}, {queue(5, item(0, 1), item(1), item(2, 1)), false, 0},
	} {
		if got := impl.QueueOk(c.q); got != c.right {
			t.Errorf("QueueOk(%v) is %v", c.q, got)
		}
		if got := impl.QueueWords(c.q); got != c.words {
			t.Errorf("QueueWords(%v) = %d, want %d", c.q, got, c.words)
		}
	}
	eachRightQueue(func(q impl.Queue) { checkRight(t, q, true) })
	for _, q := range wrongQueues() {
		checkRight(t, q, false)
	}
}

func TestQueuesTakeItemsOfEachSizeAndMicroBatch(t *testing.T) {
	for m := range 5 {
		for size := 1; size <= 6; size++ {
			for _, v := range rowsOf(size) {
				x := impl.Item{M: m, V: v}
				q := checkPush(t, queue(1), x, true)
				checkRight(t, q, true)
				checkPop(t, q, true)
			}
		}
	}
}

func TestPushAndPop(t *testing.T) {
	a, b, c := item(0, 1, 2), item(3, most), item(0, 1, 2)
	q := checkPush(t, queue(2), a, true)
	q = checkPush(t, q, b, true)
	if want := queue(2, item(0, 1, 2), item(3, most)); !sameQueue(q, want) {
		t.Errorf("two items pushed make %v, want %v", q, want)
	}
	checkPush(t, q, c, false)
	q = checkPop(t, q, true)
	if want := queue(2, item(3, most)); !sameQueue(q, want) {
		t.Errorf("without the first item it is %v, want %v", q, want)
	}
	q = checkPush(t, q, c, true)
	if want := queue(2, item(3, most), item(0, 1, 2)); !sameQueue(q, want) {
		t.Errorf("with one more it is %v, want %v", q, want)
	}
	q = checkPop(t, checkPop(t, q, true), true)
	if !sameQueue(q, queue(2)) || !impl.QueueOk(q) {
		t.Errorf("without items it is %v", q)
	}
	checkPop(t, q, false)
}

// checkFill fills a queue from the n-th item on, and empties it; it says where it takes more or fewer than Cap.
func checkFill(t *testing.T, q impl.Queue, n int) impl.Queue {
	t.Helper()
	for i := range q.Cap {
		q = checkPush(t, q, itemAt(n+i), true)
	}
	checkPush(t, q, itemAt(n+q.Cap), false)
	checkRight(t, q, true)
	for i := range q.Cap {
		_, x, ok := impl.Pop(q)
		if !ok || !sameItem(x, itemAt(n+i)) {
			t.Fatalf("of Cap %d, item %d is %v, %v, want %v", q.Cap, i, x, ok, itemAt(n+i))
		}
		q = checkPop(t, q, true)
	}
	checkPop(t, q, false)
	checkRight(t, q, true)
	if len(q.Items) != 0 {
		t.Fatalf("of Cap %d, once all are popped there are %v", q.Cap, q.Items)
	}
	return q
}

func TestAQueueTakesJustCapItemsAndGivesThemBackInOrder(t *testing.T) {
	for size := 1; size <= impl.MaxMicro; size++ {
		q := queue(size)
		for n := range 60 {
			q = checkFill(t, q, n)
		}
	}
}

func TestAQueueWithRoomForOne(t *testing.T) {
	q := queue(1)
	for n := range 60 {
		x, next := itemAt(n), itemAt(n+1)
		checkPop(t, q, false)
		q = checkPush(t, q, x, true)
		if full := checkPush(t, q, next, false); !sameQueue(full, queue(1, x)) {
			t.Fatalf("a full queue of one item became %v, want %v", full, queue(1, x))
		}
		// The same item does not go in once more, either.
		checkPush(t, q, x, false)
		q = checkPop(t, q, true)
		if !sameQueue(q, queue(1)) {
			t.Fatalf("a queue of one item that is popped became %v", q)
		}
	}
}

// TestWhatGoesInFirstComesOutFirst goes through all ways of few turns, each Push or Pop: some fill and empty the queue more than once.
func TestWhatGoesInFirstComesOutFirst(t *testing.T) {
	for size := 1; size <= impl.MaxMicro; size++ {
		fullTwice := 0
		for turns := range 1 << 12 {
			q, in, out, full := queue(size), 0, 0, 0
			for left := turns | 1<<12; left > 1; left >>= 1 {
				under := in - out
				if left&1 != 0 {
					q = checkPush(t, q, itemAt(in), under < size)
					in = min(in+1, out+size)
				} else {
					q = checkPop(t, q, under > 0)
					out = min(out+1, in)
				}
				if !slices.EqualFunc(q.Items, itemsFrom(out, in-out), sameItem) {
					t.Fatalf("of Cap %d, after some turns of %b, there are %v, want items %d to %d", size, turns, q.Items, out, in)
				}
				if under < size && in-out == size {
					full++
				}
			}
			if full > 1 {
				fullTwice++
			}
		}
		if fullTwice == 0 {
			t.Errorf("no queue of Cap %d was full more than once", size)
		}
	}
}

func TestAFullQueueTakesNoMore(t *testing.T) {
	eachRightQueue(func(q impl.Queue) {
		taken := len(q.Items) < q.Cap
		for n := range 12 {
			checkPush(t, q, itemAt(n), taken)
		}
		for _, x := range q.Items {
			checkPush(t, q, x, taken)
		}
	})
}

func TestAnEmptyQueueGivesNothing(t *testing.T) {
	for size := 1; size <= 5; size++ {
		for _, items := range [][]impl.Item{nil, {}, make([]impl.Item, 0, 7), itemsFrom(3, 4)[:0]} {
			q := queue(size, items...)
			got, x, ok := impl.Pop(q)
			if ok || !isZeroItem(x) || got.Cap != size || len(got.Items) != 0 {
				t.Errorf("Pop(%v) = %v, %v, %v", q, got, x, ok)
			}
			if got, ok := impl.Push(q, item(4, 9)); !ok || !sameQueue(got, queue(size, item(4, 9))) {
				t.Errorf("Push(%v) of one = %v, %v", q, got, ok)
			}
		}
	}
}

func TestQueuesThatAreNotRightStayAsTheyAre(t *testing.T) {
	for _, q := range wrongQueues() {
		checkPush(t, q, item(0, one), false)
		checkPush(t, q, item(4, 1, 2, 3, 4, 5, 6), false)
		checkPush(t, q, impl.Item{}, false)
		checkPush(t, q, item(-1, most+1), false)
		checkPop(t, q, false)
	}
}

func TestItemsThatAreNotRightDoNotGoIn(t *testing.T) {
	for i, x := range wrongItems() {
		for size := 1; size <= 5; size++ {
			for count := range size + 1 {
				q := queue(size, itemsFrom(i, count)...)
				checkPush(t, q, x, false)
			}
		}
	}
}

// wholeItem and wholeQueue are copies of all that a thing holds, with the room behind each of its lists.
func wholeItem(x impl.Item) impl.Item { return impl.Item{M: x.M, V: wholeRow(x.V)} }

func wholeQueue(q impl.Queue) impl.Queue {
	made := queue(q.Cap, slices.Clone(q.Items[:cap(q.Items)])...)
	for i, x := range made.Items {
		made.Items[i] = wholeItem(x)
	}
	return made
}

// roomyItem and roomyQueue have room behind each list, in which marks stand.
func roomyItem(x impl.Item) impl.Item { return impl.Item{M: x.M, V: roomyRow(x.V)} }

func roomyQueue(q impl.Queue) impl.Queue {
	made := queue(q.Cap, withRoom(q.Items, item(71, 72))...)
	whole := made.Items[:cap(made.Items)]
	for i, x := range whole {
		whole[i] = roomyItem(x)
	}
	return made
}

// queueLists are lists of which no two are to share memory, each with the room behind it.
type queueLists struct {
	items [][]impl.Item
	rows  [][]int
}

func (l *queueLists) add(q impl.Queue, loose ...impl.Item) {
	whole := q.Items[:cap(q.Items)]
	l.items = append(l.items, whole)
	for _, x := range slices.Concat(whole, loose) {
		l.rows = append(l.rows, x.V[:cap(x.V)])
	}
}

// spoil writes a mark of its own all over each list, and says whether all marks are still there once all are written.
func (l *queueLists) spoil() bool {
	for mark, row := range l.rows {
		for at := range row {
			row[at] = mark
		}
	}
	for mark, items := range l.items {
		for at := range items {
			items[at] = impl.Item{M: mark}
		}
	}
	for mark, row := range l.rows {
		if slices.ContainsFunc(row, func(n int) bool { return n != mark }) {
			return false
		}
	}
	for mark, items := range l.items {
		if slices.ContainsFunc(items, func(x impl.Item) bool { return x.M != mark || x.V != nil }) {
			return false
		}
	}
	return true
}

// checkQueueMemory says where what is asked of a queue and an item writes into them, or tells what is not new memory.
func checkQueueMemory(t *testing.T, q impl.Queue, x impl.Item) {
	t.Helper()
	wasQ, wasX := wholeQueue(q), wholeItem(x)
	impl.QueueOk(q)
	impl.QueueWords(q)
	var l queueLists
	l.add(q, x)
	for range 2 {
		pushed, _ := impl.Push(q, x)
		popped, first, _ := impl.Pop(q)
		l.add(pushed)
		l.add(popped, first)
	}
	if !reflect.DeepEqual(wholeQueue(q), wasQ) || !reflect.DeepEqual(wholeItem(x), wasX) {
		t.Fatalf("asked of a queue and an item: wrote into what was handed in: %s, %s, was %s, %s", brief(wholeQueue(q)), brief(wholeItem(x)), brief(wasQ), brief(wasX))
	}
	if !l.spoil() {
		t.Fatalf("of %s and %s: an answer shares memory", brief(wasQ), brief(wasX))
	}
}

func TestQueuesAreNewMemory(t *testing.T) {
	eachRightQueue(func(q impl.Queue) {
		for _, x := range []impl.Item{itemAt(7), {}, item(-1, 1, 2), item(5, most+1), item(4, make([]int, 7)...)} {
			checkQueueMemory(t, roomyQueue(q), roomyItem(x))
		}
	})
	for _, q := range wrongQueues() {
		checkQueueMemory(t, roomyQueue(q), roomyItem(itemAt(11)))
	}
}

func TestQueuesWhoseListsAreOneMemory(t *testing.T) {
	row := []int{1, 2, 3, 4, 5, 6}
	x := impl.Item{M: 1, V: row[1:4]}
	for _, c := range []struct {
		q            impl.Queue
		taken, given bool
	}{
		{queue(3, item(0, row...), item(1, row[:2]...)), true, true},
		{queue(2, x, x), false, true},
		{queue(1, x, x), false, false},
		{queue(6, x, x, x), false, false},
	} {
		for range 2 {
			checkPush(t, c.q, x, c.taken)
			checkPop(t, c.q, c.given)
		}
		pushed, _ := impl.Push(c.q, x)
		popped, first, _ := impl.Pop(c.q)
		l := queueLists{rows: [][]int{row}}
		l.add(pushed)
		l.add(popped, first)
		if !slices.Equal(row, []int{1, 2, 3, 4, 5, 6}) || !l.spoil() {
			t.Errorf("of %v and %v: an answer shares memory", c.q, x)
		}
		copy(row, []int{1, 2, 3, 4, 5, 6})
	}
}

func TestAnswersOfQueuesDoNotChange(t *testing.T) {
	for size := 2; size <= 5; size++ {
		for count := range size {
			q := roomyQueue(queue(size, itemsFrom(0, count)...))
			x, y := roomyItem(itemAt(20)), roomyItem(itemAt(21))
			// Both go behind the same queue, and then behind an answer, which may have room too.
			for count := count; count < size; count++ {
				withX, _ := impl.Push(q, x)
				withY, _ := impl.Push(q, y)
				wantX, wantY := queue(size, append(itemsFrom(0, count), itemAt(20))...), queue(size, append(itemsFrom(0, count), itemAt(21))...)
				if !sameQueue(withX, wantX) || !sameQueue(withY, wantY) {
					t.Fatalf("two items behind the same queue make %v and %v, want %v and %v", withX, withY, wantX, wantY)
				}
				q, _ = impl.Push(q, itemAt(count))
				var l queueLists
				l.add(withY)
				l.spoil()
				if !sameQueue(withX, wantX) || !sameQueue(q, queue(size, itemsFrom(0, count+1)...)) || !sameItem(x, itemAt(20)) || !sameItem(y, itemAt(21)) {
					t.Fatalf("as an answer was written to others became %v, %v, %v and %v", withX, q, x, y)
				}
			}
		}
	}
}
