package wheel

import (
	"cmp"
	"slices"
	"testing"

	"waywarden/api"
	"waywarden/plain"
	"waywarden/sample"
)

// ids and last are MaxNets and MaxTime, written out, so that a test does not
// follow the program if it takes another number for them.
const (
	ids  = 64
	last = sample.Last
)

// pair is a wheel and, as a plain list of all ids, what it must contain.
type pair struct {
	*testing.T
	wheel *Wheel
	now   int
	list  [ids]int // of each id, its due time, or 0
}

func newPair(t *testing.T) *pair {
	t.Helper()
	w := New()
	if w == nil {
		t.Fatal("New() = nil")
	}
	return &pair{T: t, wheel: w}
}

// pairAt returns a pair whose current time is now.
func pairAt(t *testing.T, now int) *pair {
	t.Helper()
	p := newPair(t)
	p.tick(now)
	return p
}

// checkLen compares Len with the list.
func (p *pair) checkLen() {
	p.Helper()
	want := 0
	for _, at := range p.list {
		if at != 0 {
			want++
		}
	}
	if got := p.wheel.Len(); got != want {
		p.Fatalf("at %d with %v: Len() = %d, want %d", p.now, p.list, got, want)
	}
}

// set expects Set to succeed.
func (p *pair) set(id, at int) {
	p.Helper()
	if err := p.wheel.Set(id, at); err != nil {
		p.Fatalf("at %d with %v: Set(%d, %d) = %v", p.now, p.list, id, at, err)
	}
	p.list[id] = at
	p.checkLen()
}

// sets sets a due time for each id from 0 on.
func (p *pair) sets(times ...int) {
	p.Helper()
	for id, at := range times {
		p.set(id, at)
	}
}

// clear expects Clear to succeed if the id has a due time, and ErrNone if it
// has none.
func (p *pair) clear(id int) {
	p.Helper()
	want := api.OK
	if p.list[id] == 0 {
		want = api.ErrNone
	}
	if err := p.wheel.Clear(id); plain.Told(err) != want {
		p.Fatalf("at %d with %v: Clear(%d) = %v, want %v", p.now, p.list, id, err, want)
	}
	p.list[id] = 0
	p.checkLen()
}

// due returns the ids that are due by now, sorted, and removes them from the
// list.
func (p *pair) due(now int) []int {
	var due []int
	for id, at := range p.list {
		if at != 0 && at <= now {
			due = append(due, id)
		}
	}
	times := p.list
	slices.SortFunc(due, func(a, b int) int {
		return cmp.Or(cmp.Compare(times[a], times[b]), cmp.Compare(a, b))
	})
	for _, id := range due {
		p.list[id] = 0
	}
	return due
}

// tick expects Tick to return what is due in the list. It returns that too.
func (p *pair) tick(now int) []int {
	p.Helper()
	from, before := p.now, p.list
	want := p.due(now)
	got, err := p.wheel.Tick(now)
	if !slices.Equal(got, want) || err != nil {
		p.Fatalf("at %d with %v: Tick(%d) = %v, %v, want %v", from, before, now, got, err, want)
	}
	p.now = now
	p.checkLen()
	return got
}

// wantTick expects that Tick returns these ids, and that the list agrees.
func (p *pair) wantTick(now int, want ...int) {
	p.Helper()
	if got := p.tick(now); !slices.Equal(got, want) {
		p.Fatalf("Tick(%d) = %v, want %v", now, got, want)
	}
}

// drain ticks once to each due time, which tells each id at its time.
func (p *pair) drain() {
	p.Helper()
	times := p.list
	slices.Sort(times[:])
	for _, at := range times {
		if at > p.now {
			p.tick(at - 1)
			p.tick(at)
		}
	}
	if got := p.wheel.Len(); got != 0 {
		p.Fatalf("behind all due times: Len() = %d, want 0", got)
	}
	p.tick(p.now)
}

// wantNoSet expects ErrRange of Set.
func (p *pair) wantNoSet(id, at int) {
	p.Helper()
	if err := p.wheel.Set(id, at); plain.Told(err) != api.ErrRange {
		p.Fatalf("at %d with %v: Set(%d, %d) = %v, want ErrRange", p.now, p.list, id, at, err)
	}
	p.checkLen()
}

// wantNoClear expects ErrRange of Clear.
func (p *pair) wantNoClear(id int) {
	p.Helper()
	if err := p.wheel.Clear(id); plain.Told(err) != api.ErrRange {
		p.Fatalf("at %d with %v: Clear(%d) = %v, want ErrRange", p.now, p.list, id, err)
	}
	p.checkLen()
}

// wantNoTick expects ErrRange of Tick, and no ids with it.
func (p *pair) wantNoTick(now int) {
	p.Helper()
	if got, err := p.wheel.Tick(now); len(got) != 0 || plain.Told(err) != api.ErrRange {
		p.Fatalf("at %d with %v: Tick(%d) = %v, %v, want ErrRange", p.now, p.list, now, got, err)
	}
	p.checkLen()
}

// notIDs returns numbers that are no ids; some of them are ids in their low
// bits.
func notIDs() []int {
	return append(sample.NotNodes(ids), -2, -63, 127, 128, 1<<32+1, 1<<62)
}

// starts returns current times, among them some beside those at which a wheel
// with a power of two of slots has turned.
func starts() []int {
	return []int{0, 1, 2, 62, 63, 64, 65, 127, 128, 255, 256, 1000, 1<<16 - 1, 1<<31 - 1, 1 << 31, 1<<32 - 1, 1 << 32, last / 2, last - 1000}
}

// gaps returns distances of times, among them turns of wheels with few and
// with many slots and their neighbors.
func gaps() []int {
	list := []int{3, 5, 10, 60, 100, 365, 1000}
	for shift := range 13 {
		list = append(list, 1<<shift, 1<<shift+1, 3<<shift)
	}
	list = append(list, 15, 31, 63, 127, 255, 511)
	slices.Sort(list)
	return slices.Compact(list)
}

// far returns greater distances, which still lead to a time from start on.
func far(start int) []int {
	var list []int
	for _, gap := range []int{1 << 20, 1 << 31, 1<<32 + 1, last / 2, last - start} {
		if start+gap <= last {
			list = append(list, gap)
		}
	}
	return list
}

// orders calls f for the numbers from 0 to n - 1 in every order.
func orders(n int, f func(order []int)) {
	var extend func(head []int)
	extend = func(head []int) {
		if len(head) == n {
			f(head)
		}
		for i := range n {
			if !slices.Contains(head, i) {
				extend(append(slices.Clone(head), i))
			}
		}
	}
	extend(nil)
}

func TestExample(t *testing.T) {
	p := newPair(t)
	p.set(3, 70)
	p.set(1, 5)
	p.set(2, 5)
	p.wantTick(6, 1, 2)
	p.wantNoSet(1, 6)
	p.clear(2)
	p.wantTick(200, 3)
}

// TestNew: the current time of a new wheel is 0, and no id has a due time.
func TestNew(t *testing.T) {
	newPair(t).checkLen()
	for id := range ids {
		p := newPair(t)
		p.clear(id)
		p.wantNoSet(id, 0)
		p.set(id, 1)
		p.drain()
	}
	p := newPair(t)
	p.wantNoTick(-1)
	p.wantTick(0)
	p.wantTick(last)
	newPair(t).wantTick(last)
}

// TestIDs: the first and the last id are ids, the numbers beside them are
// none, whether no id, one or all have a due time.
func TestIDs(t *testing.T) {
	if api.MaxNets != ids || api.MaxTime != last {
		t.Fatalf("MaxNets = %d, MaxTime = %d, want %d, %d", api.MaxNets, api.MaxTime, ids, last)
	}
	p := newPair(t)
	wantNone := func() {
		t.Helper()
		for _, id := range append(notIDs(), -1, 64) {
			p.wantNoSet(id, p.now+1)
			p.wantNoSet(id, last)
			p.wantNoClear(id)
		}
	}
	wantNone()
	for id := range ids {
		p.set(id, p.now+7)
		wantNone()
		p.clear(id)
		p.clear(id)
		wantNone()
		p.set(id, p.now+1)
		p.wantTick(p.now+1, id)
		p.clear(id)
	}
	for id := range ids {
		p.set(id, p.now+1+id)
	}
	wantNone()
	for id := range ids {
		p.wantTick(p.now+1, id)
	}
	wantNone()
}

// TestDueTimes: at any current time, the times behind it are due times up to
// MaxTime, those up to it are none.
func TestDueTimes(t *testing.T) {
	for _, now := range append(starts(), last-2, last-1) {
		p := pairAt(t, now)
		for _, id := range []int{0, 31, 63} {
			for _, at := range append(append(sample.Before(now), now), sample.TooLate()...) {
				p.wantNoSet(id, at)
			}
			p.clear(id)
			p.set(id, now+1)
			p.set(id, last)
			p.set(id, now+(last-now+1)/2)
			p.set(id, last)
			p.set(id, now+1)
		}
		p.wantTick(now+1, 0, 31, 63)
	}
	p := pairAt(t, last)
	for _, at := range append(append(sample.Before(last), last), sample.TooLate()...) {
		p.wantNoSet(0, at)
	}
	p.wantTick(last)
}

// TestCurrentTime: it is that of the last Tick, not the greatest due time, nor
// that of a call that failed.
func TestCurrentTime(t *testing.T) {
	p := newPair(t)
	p.set(0, 500)
	p.set(1, 3)
	p.wantNoTick(last + 1)
	p.wantNoSet(1, last+1)
	p.wantTick(2)
	p.wantNoSet(1, 2)
	p.wantNoTick(1)
	p.set(1, 4)
	p.wantTick(3)
	p.set(2, 4)
	p.wantNoSet(2, 3)
	p.wantTick(4, 1, 2)
	p.clear(0)
	p.set(0, 5)
	p.wantNoTick(3)
	p.wantTick(5, 0)
}

// TestSetAnew: only the last due time counts, be it earlier, later or the
// same, in the same slot or in another one.
func TestSetAnew(t *testing.T) {
	list := gaps()
	for _, start := range []int{0, 1, 63, 1000, last - 20000} {
		for _, first := range list {
			for _, second := range list {
				p := pairAt(t, start)
				p.set(5, start+first)
				p.set(5, start+second)
				if got := p.wheel.Len(); got != 1 {
					t.Fatalf("at %d: Set(5, %d), Set(5, %d): Len() = %d, want 1", start, start+first, start+second, got)
				}
				p.wantTick(start + second - 1)
				p.wantTick(start+second, 5)
				p.wantTick(start + max(first, second) + 1)
				p.clear(5)
			}
		}
	}
}

// TestSetAnewAmongOthers: the others keep their due times, also those in the
// same slot and of the same time.
func TestSetAnewAmongOthers(t *testing.T) {
	times := []int{1, 2, 2, 65, 66, 66, 129, 130}
	for id := range times {
		for _, at := range append(gaps(), last) {
			p := newPair(t)
			p.sets(times...)
			p.set(id, at)
			p.set(id, times[id])
			p.set(id, at)
			p.drain()
		}
	}
}

// TestSetAnewBehindTicks: the new time is between current time and old time,
// or behind both.
func TestSetAnewBehindTicks(t *testing.T) {
	for _, passed := range []int{1, 2, 63, 64, 65, 99} {
		for _, at := range []int{100, 101, 102, 127, 128, 163, 164, 165, 228, 1000, last} {
			p := newPair(t)
			p.sets(100, 164, 136)
			p.tick(passed)
			p.set(0, at)
			p.set(2, at)
			p.drain()
		}
	}
}

// TestClear: an id that is cleared has no due time; an id that has none cannot
// be cleared, and can be set.
func TestClear(t *testing.T) {
	for _, id := range []int{0, 1, 32, 62, 63} {
		for _, gap := range gaps() {
			p := newPair(t)
			p.clear(id)
			p.set(id, gap)
			p.clear(id)
			p.clear(id)
			p.wantTick(gap - 1)
			p.wantTick(gap)
			p.clear(id)
			p.wantTick(2 * gap)
			p.set(id, 3*gap)
			p.wantTick(3*gap, id)
			p.clear(id)
			p.clear(id)
			p.set(id, 4*gap)
			p.wantTick(5*gap, id)
			p.clear(id)
		}
	}
}

// TestClearBehindTick: with ErrNone only if the tick has told the id.
func TestClearBehindTick(t *testing.T) {
	for _, now := range []int{1, 9, 10, 11, 64, 74, 1000, last} {
		p := newPair(t)
		p.sets(10, 10, 11, 74, last)
		p.tick(now)
		for id := range 6 {
			p.clear(id)
			p.clear(id)
		}
		p.tick(last)
	}
}

// TestClearAmongOthers: the others keep their due times.
func TestClearAmongOthers(t *testing.T) {
	times := []int{1, 2, 2, 65, 66, 66, 129, 130}
	for a := range times {
		for b := range times {
			p := newPair(t)
			p.sets(times...)
			p.clear(a)
			p.clear(b)
			p.tick(1)
			p.clear(a)
			p.set(b, 2)
			p.drain()
		}
	}
}

// TestClearAndSetAgain: in each order of the acts, the last one counts.
func TestClearAndSetAgain(t *testing.T) {
	for _, gap := range gaps() {
		p := newPair(t)
		p.set(7, gap)
		p.clear(7)
		p.set(7, gap+1)
		p.wantTick(gap)
		p.wantTick(gap+1, 7)
		p.set(7, gap+64)
		p.clear(7)
		p.set(8, gap+64)
		p.set(7, gap+2)
		p.wantTick(gap+2, 7)
		p.wantTick(gap+64, 8)
	}
}

// TestTick: an id is told by the first tick that is not ahead of its due time,
// however far that tick is, and by no other one.
func TestTick(t *testing.T) {
	for _, start := range starts() {
		for _, gap := range append(gaps(), far(start)...) {
			at := start + gap
			if at > last {
				continue
			}
			for _, to := range []int{at, at + 1, at + 63, at + 64, at + 1000, at + 1<<32, last} {
				if to > last {
					continue
				}
				p := pairAt(t, start)
				p.set(20, at)
				p.wantTick(start)
				p.wantTick(at - 1)
				p.wantTick(to, 20)
				p.wantTick(to)
				p.wantTick(last)

				p = pairAt(t, start)
				p.set(20, at)
				p.wantTick(to, 20)
				p.wantTick(last)
			}
		}
	}
}

// TestTickBySteps: an id stays for all turns of the wheel until it is due.
func TestTickBySteps(t *testing.T) {
	for _, step := range []int{1, 2, 7, 63, 64, 65, 128} {
		p := newPair(t)
		for id := range ids {
			p.set(id, 1+id*23)
		}
		for now := 0; now < 1600; now += step {
			p.tick(now)
			p.tick(now)
		}
		p.checkLen()
		if got := p.wheel.Len(); got != 0 {
			t.Fatalf("Len() = %d, want 0", got)
		}
	}
}

// TestTickToCurrentTime: it is no error, and tells and changes nothing.
func TestTickToCurrentTime(t *testing.T) {
	for _, start := range starts() {
		p := pairAt(t, start)
		p.wantTick(start)
		p.sets(start+1, start+64, start+65, last)
		for range 3 {
			p.wantTick(start)
		}
		p.drain()
		p.wantTick(last)
		p.wantTick(last)
	}
}

// TestNotTicks: ticks back in time and past MaxTime change nothing.
func TestNotTicks(t *testing.T) {
	for _, start := range append(starts(), last-300, last-200) {
		p := pairAt(t, start)
		p.sets(start+1, start+2, start+64, start+65, last-1, last)
		for _, now := range append(sample.Before(start), sample.TooLate()...) {
			p.wantNoTick(now)
			p.tick(start)
		}
		p.set(7, start+1)
		p.wantTick(start+1, 0, 7)
		p.wantNoTick(start)
		p.wantNoTick(last + 1)
		p.wantTick(start+2, 1)
		p.drain()
		p.tick(last)
		for _, now := range append(sample.Before(last), sample.TooLate()...) {
			p.wantNoTick(now)
		}
		p.wantTick(last)
	}
}

// TestSameTime: ids that are due at one time are told by id, in whatever order
// they are set.
func TestSameTime(t *testing.T) {
	for _, at := range []int{1, 64, 1000, last} {
		orders(5, func(order []int) {
			for _, to := range []int{at, last} {
				p := newPair(t)
				for _, id := range order {
					p.set(10*id, at)
				}
				p.wantTick(at - 1)
				p.wantTick(to, 0, 10, 20, 30, 40)
				p.wantTick(to)
			}
		})
	}
}

// TestSameSlot: of ids whose times are a number of turns apart, each is told
// at its own time; one tick tells them by time, not by id.
func TestSameSlot(t *testing.T) {
	for _, turn := range append(gaps(), size) {
		orders(4, func(order []int) {
			p := newPair(t)
			for id, rank := range order {
				p.set(id, 1+rank*turn)
			}
			p.drain()
			now := p.now
			var want [4]int
			for id, rank := range order {
				p.set(id, now+turn*(1+rank))
				want[rank] = id
			}
			p.wantTick(now+4*turn, want[:]...)
		})
	}
}

// TestSorted: what is told is sorted by due time and then by id, within a slot
// and beyond, if the tick is one turn, several turns or less.
func TestSorted(t *testing.T) {
	for seed := range 40 {
		for _, span := range []int{1, 2, 10, 63, 64, 65, 200, 10000, last} {
			for _, start := range []int{0, 63, 64, 1000} {
				p := pairAt(t, start)
				for step := range ids {
					id := (step*29 + seed) % ids
					p.set(id, min(start+1+api.Mix(seed, id)*256%span, last))
				}
				to := min(start+span, last)
				if seed%2 == 0 {
					p.tick(start + (to-start)/2)
				}
				p.tick(to)
				if got := p.wheel.Len(); got != 0 {
					t.Fatalf("Len() = %d, want 0", got)
				}
			}
		}
	}
}

// TestTimeBeforeID: the due time counts before the id, also where all ids have
// different times that fall, and where the times share a slot.
func TestTimeBeforeID(t *testing.T) {
	for _, gap := range append(gaps(), last/64) {
		p, q := newPair(t), newPair(t)
		var falling, rising []int
		for id := range ids {
			p.set(id, (ids-id)*gap)
			q.set(id, (id+1)*gap)
			falling = append(falling, ids-1-id)
			rising = append(rising, id)
		}
		p.wantTick(ids*gap, falling...)
		q.wantTick(ids*gap, rising...)
	}
}

// TestAllAtOnce: all ids are due at one time, and are told together.
func TestAllAtOnce(t *testing.T) {
	var all []int
	for id := range ids {
		all = append(all, id)
	}
	for _, start := range append(starts(), last-1) {
		for _, at := range []int{start + 1, start + 63, start + 64, start + 65, last} {
			if at > last {
				continue
			}
			p := pairAt(t, start)
			for _, id := range slices.Backward(all) {
				p.set(id, at)
			}
			if got := p.wheel.Len(); got != ids {
				t.Fatalf("Len() = %d, want %d", got, ids)
			}
			for _, id := range all {
				p.set(id, at)
			}
			p.wantTick(at - 1)
			p.wantTick(at, all...)
			for id := range ids {
				p.clear(id)
			}
			p.wantTick(last)
		}
	}
}

// TestLen: it counts ids with a due time, not calls.
func TestLen(t *testing.T) {
	p := newPair(t)
	want := func(want int) {
		t.Helper()
		if got := p.wheel.Len(); got != want {
			t.Errorf("Len() = %d, want %d", got, want)
		}
	}
	want(0)
	p.set(3, 7)
	want(1)
	p.set(3, 7)
	p.set(3, 8)
	p.set(3, 71)
	want(1)
	p.set(0, 7)
	p.set(1, 7)
	want(3)
	p.clear(2)
	p.wantNoClear(64)
	p.wantNoSet(64, 7)
	p.wantNoSet(2, 0)
	p.wantNoTick(-1)
	want(3)
	p.tick(6)
	want(3)
	p.tick(7)
	want(1)
	p.clear(0)
	want(1)
	p.tick(70)
	want(1)
	p.clear(3)
	want(0)
	p.set(3, last)
	want(1)
	p.tick(last)
	want(0)
}

// TestShortRows: all rows of five acts on two ids, with due times that share a
// slot or do not.
func TestShortRows(t *testing.T) {
	gaps := []int{1, 2, size + 1}
	steps := []int{0, 1, size}
	acts := 2*len(gaps) + 2 + len(steps)
	for code := range acts * acts * acts * acts * acts {
		p := newPair(t)
		for rest, row := code, 0; row < 5; rest, row = rest/acts, row+1 {
			switch act := rest % acts; {
			case act < 2*len(gaps):
				p.set(act%2, p.now+gaps[act/2])
			case act < 2*len(gaps)+2:
				p.clear(act % 2)
			default:
				p.tick(p.now + steps[act-2*len(gaps)-2])
			}
		}
		p.drain()
	}
}

// act does one act, which depends on the seed and the step only: a due time up
// to span ticks ahead, an id cleared, or a wrong argument.
func (p *pair) act(seed, step, span int) {
	p.Helper()
	id := api.Mix(seed, 4*step) % ids
	r := api.Mix(seed, 4*step+1)
	switch {
	case r%16 < 10:
		at := p.now + 1 + api.Mix(seed, 4*step+2)%span
		if at > last {
			p.wantNoSet(id, at)
		} else {
			p.set(id, at)
		}
	case r%16 < 13:
		p.clear(id)
	case r%16 == 13:
		p.wantNoSet(id, p.now-r%3)
	case r%16 == 14:
		bad := notIDs()
		p.wantNoSet(bad[step%len(bad)], p.now+1)
		p.wantNoClear(bad[step%len(bad)])
	default:
		p.wantNoTick(p.now - 1)
		p.wantNoTick(last + 1 + r)
	}
}

// TestMixedRows compares long rows of acts with the list; behind every act are
// a Tick, by nothing, a little or several turns, and a Len.
func TestMixedRows(t *testing.T) {
	for _, start := range []int{0, 1000, last - 5000} {
		for seed, span := range []int{1, 2, 10, 63, 64, 65, 150, 1000, 100000} {
			p := pairAt(t, start)
			for step := range 5000 {
				p.act(seed, step, span)
				by := 0
				switch r := api.Mix(seed, 4*step+3); {
				case r%64 == 0:
					by = r / 64 % (3 * span)
				case r%8 < 4:
					by = r / 8 % 3
				}
				p.tick(min(p.now+by, last))
				p.checkLen()
			}
			p.drain()
		}
	}
}

// TestOneTickAgainstSeveral: one tick tells what several up to the same time
// tell one behind the other.
func TestOneTickAgainstSeveral(t *testing.T) {
	for seed := range 30 {
		for _, span := range []int{1, 10, 63, 64, 65, 130, 1000, 1 << 30} {
			for _, parts := range []int{2, 3, 64, 65, 200} {
				one, several := pairAt(t, seed), pairAt(t, seed)
				for id := range ids {
					at := seed + 1 + api.Mix(seed, id)%(2*span)
					one.set(id, at)
					several.set(id, at)
				}
				var told []int
				for part := range parts {
					told = append(told, several.tick(seed+span*(part+1)/parts)...)
				}
				one.wantTick(seed+span, told...)
				if one.wheel.Len() != several.wheel.Len() {
					t.Fatalf("Len() = %d, %d", one.wheel.Len(), several.wheel.Len())
				}
				rest := several.tick(last)
				one.wantTick(last, rest...)
			}
		}
	}
}

// TestOrderOfCalls: what is told depends on the due times, not on the acts
// that led to them.
func TestOrderOfCalls(t *testing.T) {
	times := []int{70, 6, 6, 134, 5, 70}
	orders(len(times), func(order []int) {
		p := newPair(t)
		for _, id := range order {
			p.set(id, 1+id)
			p.set(id+10, 6)
		}
		for at, id := range order {
			p.set(id, times[id])
			p.clear(order[len(order)-1-at] + 10)
		}
		p.wantTick(5, 4)
		p.wantTick(200, 1, 2, 0, 5, 3)
	})
}

// TestFirstError: that the number is no id comes before all else.
func TestFirstError(t *testing.T) {
	p := newPair(t)
	for range 2 {
		for _, id := range notIDs() {
			p.wantNoClear(id)
			for _, at := range []int{-1, 0, p.now, p.now + 1, last, last + 1} {
				p.wantNoSet(id, at)
			}
		}
		p.sets(p.now+9, p.now+9, p.now+9)
		p.tick(p.now + 9)
	}
}

// TestErrorsChangeNothing: neither the current time nor a due time, with each
// subset of some ids.
func TestErrorsChangeNothing(t *testing.T) {
	for subset := range 1 << 5 {
		for _, start := range []int{0, 5, 64} {
			p := pairAt(t, start)
			for i := range 5 {
				if subset>>i&1 == 1 {
					p.set(15*i, start+1+i*i*8)
				}
			}
			for range 2 {
				for id := range ids {
					if p.list[id] == 0 {
						p.clear(id)
					}
				}
				for _, at := range append(append(sample.Before(start), start), sample.TooLate()...) {
					p.wantNoSet(0, at)
					p.wantNoSet(63, at)
					p.wantNoSet(-1, at)
				}
				for _, id := range notIDs() {
					p.wantNoSet(id, start+1)
					p.wantNoClear(id)
				}
				for _, now := range append(sample.Before(start), sample.TooLate()...) {
					p.wantNoTick(now)
				}
				p.wantTick(start)
			}
			p.set(1, start+1)
			p.drain()
		}
	}
}

// TestTwoWheels: an act on one of them does not change the other one.
func TestTwoWheels(t *testing.T) {
	p, q := newPair(t), newPair(t)
	for step := range 3000 {
		acting, other := p, q
		if api.Mix(1, step)%2 == 1 {
			acting, other = q, p
		}
		acting.act(2, step, 200)
		acting.tick(acting.now + api.Mix(3, step)%4)
		other.checkLen()
		other.tick(other.now)
	}
	p.drain()
	q.checkLen()
	q.drain()
	p, q = newPair(t), newPair(t)
	p.sets(1, 2, 3)
	p.tick(1000)
	q.clear(0)
	q.sets(1, 1, 1)
	q.wantTick(1, 0, 1, 2)
}

// TestOwnMemory: what a Tick returned can be changed, with the memory behind
// it, and is not changed by later calls.
func TestOwnMemory(t *testing.T) {
	p := newPair(t)
	var before []int
	for round := range 20 {
		now := p.now
		for id := range ids {
			p.set(id, now+1+id*5%7)
		}
		told := p.tick(now + 3)
		if round > 0 && !slices.Equal(before, told) {
			t.Fatalf("round %d: Tick(%d) = %v, want %v", round, now+3, told, before)
		}
		before = slices.Clone(told)
		rest := p.tick(now + 7)
		keep := slices.Clone(rest)
		if !slices.Equal(told, before) {
			t.Fatalf("behind another Tick: %v, want %v", told, before)
		}
		sample.Spoil(told)
		if !slices.Equal(rest, keep) {
			t.Fatalf("behind a change of another result: %v, want %v", rest, keep)
		}
		sample.Spoil(rest)
		p.checkLen()
	}
}

// TestSpoiltResult: changing what one Tick returned does not change what is
// still to come.
func TestSpoiltResult(t *testing.T) {
	for step := 1; step < 70; step++ {
		p := newPair(t)
		for id := range ids {
			p.set(id, 1+id*id%150)
		}
		for p.wheel.Len() > 0 {
			sample.Spoil(p.tick(p.now + step))
		}
		p.tick(last)
	}
}
