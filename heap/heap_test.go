package heap

import (
	"cmp"
	"math"
	"slices"
	"testing"

	"waywarden/api"
	"waywarden/plain"
	"waywarden/sample"
)

// kept is what a heap must contain of one thing.
type kept struct {
	used bool // it has a key
	key  int
}

// pair is a heap and, as a plain list of all things, what it must contain.
type pair struct {
	*testing.T
	heap *Heap
	list []kept
}

func newPair(t *testing.T, n int) pair {
	t.Helper()
	h, err := New(n)
	if h == nil || err != nil {
		t.Fatalf("New(%d) = %v, %v", n, h, err)
	}
	return pair{t, h, make([]kept, n)}
}

// put expects Put to succeed.
func (p pair) put(i, key int) {
	p.Helper()
	if err := p.heap.Put(i, key); err != nil {
		p.Fatalf("with %v: Put(%d, %d) = %v", p.some(), i, key, err)
	}
	p.list[i] = kept{true, key}
	p.checkTop()
}

// puts puts a key for each thing from 0 on.
func (p pair) puts(keys ...int) {
	p.Helper()
	for i, key := range keys {
		p.put(i, key)
	}
}

// drop expects Drop to succeed.
func (p pair) drop(i int) {
	p.Helper()
	if err := p.heap.Drop(i); err != nil {
		p.Fatalf("with %v: Drop(%d) = %v", p.some(), i, err)
	}
	p.list[i] = kept{}
	p.checkTop()
}

// some returns as much of the list as fits into a message.
func (p pair) some() []kept { return p.list[:min(len(p.list), 10)] }

// least returns the first thing with the smallest key, or -1 if no thing has
// a key, and how many have one.
func (p pair) least() (int, int) {
	first, count := -1, 0
	for i, k := range p.list {
		if !k.used {
			continue
		}
		count++
		if first < 0 || k.key < p.list[first].key {
			first = i
		}
	}
	return first, count
}

// checkTop compares Min and Len with a search of the list.
func (p pair) checkTop() {
	p.Helper()
	first, count := p.least()
	if got := p.heap.Len(); got != count {
		p.Fatalf("with %v: Len() = %d, want %d", p.some(), got, count)
	}
	i, key, err := p.heap.Min()
	if first < 0 {
		if i != 0 || key != 0 || plain.Told(err) != api.ErrNone {
			p.Fatalf("without keys: Min() = %d, %d, %v, want 0, 0, ErrNone", i, key, err)
		}
		return
	}
	if i != first || key != p.list[first].key || err != nil {
		p.Fatalf("with %v: Min() = %d, %d, %v, want %d, %d", p.some(), i, key, err, first, p.list[first].key)
	}
}

// checkKey compares Key with the list.
func (p pair) checkKey(i int) {
	p.Helper()
	want, wantErr := p.list[i].key, api.OK
	if !p.list[i].used {
		want, wantErr = 0, api.ErrNone
	}
	if key, err := p.heap.Key(i); key != want || plain.Told(err) != wantErr {
		p.Fatalf("with %v: Key(%d) = %d, %v, want %d, %v", p.some(), i, key, err, want, wantErr)
	}
}

// check compares all that the heap tells with the list.
func (p pair) check() {
	p.Helper()
	p.checkTop()
	for i := range p.list {
		p.checkKey(i)
	}
}

// wantNoKey expects this error of Drop and Key, and that nothing changes.
func (p pair) wantNoKey(i int, want api.Errno) {
	p.Helper()
	if err := p.heap.Drop(i); plain.Told(err) != want {
		p.Fatalf("with %v: Drop(%d) = %v, want %v", p.some(), i, err, want)
	}
	p.checkTop()
	if key, err := p.heap.Key(i); key != 0 || plain.Told(err) != want {
		p.Fatalf("with %v: Key(%d) = %d, %v, want 0, %v", p.some(), i, key, err, want)
	}
	p.checkTop()
}

// wantNoThing expects ErrRange of all methods that have a thing, and that
// nothing changes.
func (p pair) wantNoThing(i int) {
	p.Helper()
	for _, key := range []int{math.MinInt, -1, 0, 1, math.MaxInt} {
		if err := p.heap.Put(i, key); plain.Told(err) != api.ErrRange {
			p.Fatalf("with %v: Put(%d, %d) = %v, want ErrRange", p.some(), i, key, err)
		}
		p.checkTop()
	}
	p.wantNoKey(i, api.ErrRange)
}

// drain drops the least thing until none has a key, and compares what Min
// returns with the things sorted by key and then by thing.
func (p pair) drain() {
	p.Helper()
	var sorted []int
	for i, k := range p.list {
		if k.used {
			sorted = append(sorted, i)
		}
	}
	slices.SortFunc(sorted, func(a, b int) int {
		return cmp.Or(cmp.Compare(p.list[a].key, p.list[b].key), cmp.Compare(a, b))
	})
	for at, want := range sorted {
		i, key, err := p.heap.Min()
		if i != want || key != p.list[want].key || err != nil {
			p.Fatalf("behind %d others: Min() = %d, %d, %v, want %d, %d", at, i, key, err, want, p.list[want].key)
		}
		if err := p.heap.Drop(want); err != nil {
			p.Fatalf("behind %d others: Drop(%d) = %v", at, want, err)
		}
		if got := p.heap.Len(); got != len(sorted)-at-1 {
			p.Fatalf("Len() = %d, want %d", got, len(sorted)-at-1)
		}
	}
	clear(p.list)
	p.check()
}

// notThings returns numbers that are no things of a heap of n things; some of
// them are things in their low bits.
func notThings(n int) []int {
	return []int{math.MinInt, -1 << 32, -n - 1, -1, n, n + 1, 5000, 1 << 32, 1<<32 + n - 1, 1 << 62, math.MaxInt}
}

// orders calls f for the numbers from 0 to n - 1 in every order.
func orders(n int, f func(order []int)) {
	var extend func(head []int)
	extend = func(head []int) {
		if len(head) == n {
			f(head)
		}
		for i := range n {
			if !slices.Contains(head, i) {
				extend(append(slices.Clone(head), i))
			}
		}
	}
	extend(nil)
}

func TestExample(t *testing.T) {
	p := newPair(t, 3)
	p.put(0, 5)
	p.put(2, 3)
	p.put(1, 3)
	if i, key, err := p.heap.Min(); i != 1 || key != 3 || err != nil {
		t.Errorf("Min() = %d, %d, %v, want 1, 3", i, key, err)
	}
	p.drop(1)
	p.put(2, 9)
	if i, key, err := p.heap.Min(); i != 0 || key != 5 || err != nil {
		t.Errorf("Min() = %d, %d, %v, want 0, 5", i, key, err)
	}
	if got := p.heap.Len(); got != 2 {
		t.Errorf("Len() = %d, want 2", got)
	}
	if key, err := p.heap.Key(2); key != 9 || err != nil {
		t.Errorf("Key(2) = %d, %v, want 9", key, err)
	}
	p.wantNoKey(1, api.ErrNone)
	p.wantNoThing(3)
	p.check()
}

// TestSizes: in a new heap of any size no thing has a key.
func TestSizes(t *testing.T) {
	for _, n := range []int{0, 1, 2, 3, 256, 4999, 5000} {
		p := newPair(t, n)
		p.check()
		for i := range n {
			p.wantNoKey(i, api.ErrNone)
		}
		p.check()
	}
}

// TestNotSizes: some of them are sizes in their low bits.
func TestNotSizes(t *testing.T) {
	for _, n := range []int{math.MinInt, -1 << 32, -5000, -2, -1, 5001, 5002, 65536, 1 << 32, 1<<32 + 1, 1<<32 + 5000, 1 << 62, math.MaxInt} {
		if h, err := New(n); h != nil || plain.Told(err) != api.ErrRange {
			t.Errorf("New(%d) = %v, %v, want nil, ErrRange", n, h, err)
		}
	}
}

// TestNoHeap: the nil that New returned with an error has no things.
func TestNoHeap(t *testing.T) {
	for _, n := range []int{-1, 5001} {
		h, _ := New(n)
		p := pair{t, h, nil}
		p.checkTop()
		for _, i := range append(notThings(0), 0) {
			p.wantNoThing(i)
		}
	}
}

// TestThings: the first and the last thing are things, the numbers beside
// them are none, whether no thing, some things or all things have a key.
func TestThings(t *testing.T) {
	for _, n := range []int{0, 1, 2, 3, 8, 100, 5000} {
		p := newPair(t, n)
		wantNone := func() {
			t.Helper()
			for _, i := range notThings(n) {
				p.wantNoThing(i)
			}
			p.check()
		}
		wantNone()
		for _, i := range []int{0, n / 2, n - 1} {
			if i < 0 || i >= n {
				continue
			}
			p.put(i, i-1)
			wantNone()
			p.put(i, -i)
			p.drop(i)
			p.wantNoKey(i, api.ErrNone)
			wantNone()
			p.put(i, i)
			wantNone()
		}
		for i := range min(n, 100) {
			p.put(i, -i)
		}
		wantNone()
		p.drain()
		wantNone()
	}
}

// TestKeys: every int is a key, and they are compared as ints, also where
// their difference is none.
func TestKeys(t *testing.T) {
	keys := []int{math.MinInt, math.MinInt + 1, -1 << 32, -1, 0, 1, 1 << 32, math.MaxInt - 1, math.MaxInt}
	for _, key := range keys {
		p := newPair(t, 1)
		p.put(0, key)
		p.check()
		for _, other := range keys {
			q := newPair(t, 2)
			q.puts(key, other)
			q.check()
			q.put(0, other)
			q.check()
			q.put(1, key)
			q.check()
			q.drain()
			p.put(0, other)
			p.check()
		}
	}
	for turn := range keys {
		p := newPair(t, len(keys))
		p.puts(append(slices.Clone(keys[turn:]), keys[:turn]...)...)
		p.check()
		p.drain()
		slices.Reverse(keys)
		p.puts(append(slices.Clone(keys[turn:]), keys[:turn]...)...)
		p.drain()
	}
}

// TestLen: it counts things with a key, not calls.
func TestLen(t *testing.T) {
	p := newPair(t, 4)
	want := func(want int) {
		t.Helper()
		if got := p.heap.Len(); got != want {
			t.Errorf("Len() = %d, want %d", got, want)
		}
	}
	want(0)
	p.put(3, 7)
	want(1)
	p.put(3, 7)
	p.put(3, 6)
	want(1)
	p.put(0, 7)
	want(2)
	p.wantNoKey(1, api.ErrNone)
	p.wantNoThing(4)
	want(2)
	p.drop(3)
	want(1)
	p.wantNoKey(3, api.ErrNone)
	want(1)
	p.drop(0)
	want(0)
	p.puts(1, 1, 1, 1)
	want(4)
}

// TestPutAnew: of keys in every order, each one becomes smaller or greater
// than any other one, equal to it, or stays as it was.
func TestPutAnew(t *testing.T) {
	for n := 1; n <= 5; n++ {
		orders(n, func(order []int) {
			for i := range n {
				for key := -1; key <= 2*n; key++ {
					p := newPair(t, n)
					for at, rank := range order {
						p.put(at, 2*rank)
					}
					p.put(i, key)
					p.check()
					p.put(i, 2*order[i])
					p.check()
					p.put(i, key)
					p.drain()
				}
			}
		})
	}
}

// TestPutAnewInALargeHeap: a key moves from each place in a tree of many
// levels to the top, to the bottom and between.
func TestPutAnewInALargeHeap(t *testing.T) {
	for i := range 70 {
		for _, key := range []int{math.MinInt, -1, 0, 1, 33, 68, 69, 70, 71, math.MaxInt} {
			p := newPair(t, 70)
			for at := range 70 {
				p.put(at, at*29%70)
			}
			p.put(i, key)
			p.check()
			p.drain()
		}
	}
}

// TestDrop drops each two of up to five things, the second one also twice,
// and puts both again.
func TestDrop(t *testing.T) {
	for n := 1; n <= 5; n++ {
		orders(n, func(order []int) {
			for i := range n {
				for j := range n {
					p := newPair(t, n)
					p.puts(order...)
					p.drop(i)
					p.check()
					if j != i {
						p.drop(j)
					}
					p.wantNoKey(j, api.ErrNone)
					p.wantNoKey(j, api.ErrNone)
					p.wantNoKey(i, api.ErrNone)
					p.check()
					p.put(i, order[j])
					p.check()
					p.put(j, order[i])
					p.check()
					p.drain()
				}
			}
		})
	}
}

// TestDropInALargeHeap: the thing that fills the gap may have to move up as
// well as down, in whichever place of a tree of many levels the gap is.
func TestDropInALargeHeap(t *testing.T) {
	for seed := range 20 {
		for i := range 70 {
			p := newPair(t, 70)
			for at := range 70 {
				p.put(at, api.Mix(seed, at)%100)
			}
			p.drop(i)
			p.check()
			p.wantNoKey(i, api.ErrNone)
			p.drain()
		}
	}
	// The last thing is below thing 1, and its key is less than those of thing
	// 2 and the things below it.
	for i := range 11 {
		p := newPair(t, 11)
		p.puts(0, 1, 50, 2, 3, 60, 70, 4, 5, 6, 7)
		p.drop(i)
		p.check()
		p.drain()
	}
}

// TestPutBehindDrop: a thing that is put again has its new key only.
func TestPutBehindDrop(t *testing.T) {
	p := newPair(t, 3)
	p.puts(4, 6, 8)
	for _, key := range []int{9, 5, 0, math.MinInt, 4, 6, 8, math.MaxInt, 7} {
		for i := range 3 {
			p.drop(i)
			p.check()
			p.put(i, key)
			p.check()
		}
	}
	p.drain()
	p.puts(3, 2, 1)
	p.check()
	p.drain()
}

// TestEqualKeys: of several things with the smallest key, the smallest one is
// told, in whatever order they are put.
func TestEqualKeys(t *testing.T) {
	orders(6, func(order []int) {
		for _, same := range []int{6, 2, 1} {
			p := newPair(t, 6)
			for _, i := range order {
				p.put(i, i/same)
			}
			p.drain()
			for _, i := range order {
				p.put(i, -i/same)
			}
			for _, i := range order {
				p.put(i, 3)
			}
			p.drop(order[0])
			p.drain()
		}
	})
}

// TestSorted: the least thing is dropped again and again until none has a
// key, for heaps of many sizes, with few and with many equal keys.
func TestSorted(t *testing.T) {
	for n := range 130 {
		for _, most := range []int{1, 2, 10, 1000, 1 << 32} {
			p := newPair(t, n)
			for i := range n {
				p.put(i, api.Mix(n, i)%most-most/2)
			}
			p.check()
			p.drain()
		}
	}
}

// TestManyThings: all things of the largest heap have a key, which rises,
// falls, is mixed or is the same.
func TestManyThings(t *testing.T) {
	for _, key := range []func(i int) int{
		func(i int) int { return i },
		func(i int) int { return -i },
		func(i int) int { return api.Mix(1, i) },
		func(i int) int { return api.Mix(2, i)%50 - 25 },
		func(i int) int { return 7 },
	} {
		p := newPair(t, 5000)
		for i := range 5000 {
			if err := p.heap.Put(i, key(i)); err != nil {
				t.Fatalf("Put(%d, %d) = %v", i, key(i), err)
			}
			p.list[i] = kept{true, key(i)}
		}
		p.check()
		for _, i := range notThings(5000) {
			p.wantNoThing(i)
		}
		p.drain()
	}
}

// TestShortRows: all rows of acts on two things with two keys, and on three
// things with one key.
func TestShortRows(t *testing.T) {
	for _, c := range [][2]int{{2, 2}, {3, 1}} {
		n, keys := c[0], c[1]
		acts := n * (keys + 1)
		for code := range acts * acts * acts * acts * acts {
			p := newPair(t, n)
			for rest, step := code, 0; step < 5; rest, step = rest/acts, step+1 {
				p.act(rest%acts/(keys+1), rest%acts%(keys+1), keys)
			}
			p.check()
		}
	}
}

// act puts this key for thing i, or drops the thing if the key is keys.
func (p pair) act(i, key, keys int) {
	p.Helper()
	switch {
	case key < keys:
		p.put(i, key)
	case p.list[i].used:
		p.drop(i)
	default:
		p.wantNoKey(i, api.ErrNone)
	}
	p.checkKey(i)
}

// TestMixedRows compares long rows of acts with the list: at first most acts
// are Puts, in the end most are Drops.
func TestMixedRows(t *testing.T) {
	for _, n := range []int{1, 2, 3, 7, 8, 20, 100, 1000} {
		for seed, keys := range []int{1, 2, 5, 1000, 1 << 30} {
			p := newPair(t, n)
			for step := range 4000 {
				i := api.Mix(seed, 3*step) % n
				key := api.Mix(seed, 3*step+1)%keys - keys/2
				if api.Mix(seed, 3*step+2)%8 < step/500 {
					key = keys
				}
				if step%50 == 49 {
					p.wantNoThing(notThings(n)[step/50%11])
				}
				if least, _ := p.least(); least >= 0 && step%7 == 0 {
					i = least
				}
				p.act(i, key, keys)
			}
			p.check()
			p.drain()
		}
	}
}

// TestOrderOfCalls: what is told depends on the keys only, not on the calls
// that led to them.
func TestOrderOfCalls(t *testing.T) {
	keys := []int{3, 1, 3, 1, 2, 2}
	orders(len(keys), func(order []int) {
		p := newPair(t, len(keys))
		for _, i := range order {
			p.put(i, i)
		}
		for _, i := range order {
			p.put(i, keys[i])
		}
		p.check()
		p.drain()
	})
}

// TestErrorsChangeNothing: neither a key nor what is least, with each subset
// of the things.
func TestErrorsChangeNothing(t *testing.T) {
	for subset := range 1 << 4 {
		p := newPair(t, 4)
		for i := range 4 {
			if subset>>i&1 == 1 {
				p.put(i, 5-i%2)
			}
		}
		for range 2 {
			for _, i := range append(notThings(4), sample.NotNodes(4)...) {
				p.wantNoThing(i)
				p.check()
			}
			for i, k := range p.list {
				if !k.used {
					p.wantNoKey(i, api.ErrNone)
					p.check()
				}
			}
		}
		p.drain()
	}
}

// TestReadingChangesNothing: Min does not remove anything, and none of Min,
// Key and Len depends on how often it was called.
func TestReadingChangesNothing(t *testing.T) {
	p := newPair(t, 9)
	for i := range 9 {
		p.put(i, i*5%9)
		for range 4 {
			p.check()
		}
	}
	p.drain()
}

// TestTwoHeaps: an act on one of them does not change the other one.
func TestTwoHeaps(t *testing.T) {
	p, q := newPair(t, 20), newPair(t, 20)
	for step := range 2000 {
		acting := p
		if api.Mix(1, step)%2 == 1 {
			acting = q
		}
		acting.act(api.Mix(2, step)%20, api.Mix(3, step)%9, 6)
		p.check()
		q.check()
	}
	p.drain()
	q.check()
	q.puts(5, 4, 3)
	p.check()
	q.drain()
}
