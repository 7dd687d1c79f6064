package rib

import (
	"cmp"
	"math"
	"slices"
	"testing"

	"waywarden/api"
	"waywarden/plain"
	"waywarden/sample"
)

// The constants of api, written out, so that a test does not follow the
// program if it takes other numbers for them.
const (
	near     = 8
	nets     = 64
	infinity = 16
	expire   = 180
	collect  = 120
	last     = sample.Last
)

// record is what a neighbor told last that counts, and when.
type record struct {
	api.Heard
	at int
}

// changes returns the times from which the metric is 16, and from which the
// entry is not there.
func (r record) changes() (int, int) {
	if r.Metric == infinity {
		return r.at, r.at + collect
	}
	return r.at + expire, r.at + expire + collect
}

// metric returns the metric at a time, or 0 if the entry is not there. It is
// found at once, without regard to what the times between were.
func (r record) metric(now int) int {
	lost, gone := r.changes()
	switch {
	case now < lost:
		return r.Metric
	case now < gone:
		return infinity
	}
	return 0
}

// pair is a rib and, as a plain list, what it must contain.
type pair struct {
	*testing.T
	rib  *Rib
	now  int
	list []record
}

func newPair(t *testing.T) *pair {
	t.Helper()
	r := New()
	if r == nil {
		t.Fatal("New() = nil")
	}
	return &pair{T: t, rib: r}
}

// pairAt returns a pair whose time is now.
func pairAt(t *testing.T, now int) *pair {
	t.Helper()
	p := newPair(t)
	p.age(now)
	return p
}

// at returns a copy of the records that are there at a time.
func (p *pair) at(now int) []record {
	var list []record
	for _, r := range p.list {
		if r.metric(now) != 0 {
			list = append(list, r)
		}
	}
	return list
}

// want returns the list as List must return it.
func (p *pair) want() []api.Heard {
	var list []api.Heard
	for _, r := range p.at(p.now) {
		list = append(list, api.Heard{From: r.From, Net: r.Net, Metric: r.metric(p.now)})
	}
	slices.SortFunc(list, func(a, b api.Heard) int {
		return cmp.Or(a.From-b.From, cmp.Compare(a.Net.Addr, b.Net.Addr), a.Net.Len-b.Net.Len)
	})
	return list
}

// check compares List and Now with the list.
func (p *pair) check() {
	p.Helper()
	if got := p.rib.Now(); got != p.now {
		p.Fatalf("with %v: Now() = %d, want %d", p.list, got, p.now)
	}
	if got, want := p.rib.List(), p.want(); !slices.Equal(got, want) {
		p.Fatalf("at %d with %v: List() = %v, want %v", p.now, p.list, got, want)
	}
}

// wantList expects that List returns this, and that the list agrees.
func (p *pair) wantList(want ...api.Heard) {
	p.Helper()
	p.check()
	if got := p.rib.List(); !slices.Equal(got, want) {
		p.Fatalf("at %d: List() = %v, want %v", p.now, got, want)
	}
}

// noteLearn does to the list what Learn must do, and returns the error that
// Learn must return for arguments that are in order.
func (p *pair) noteLearn(h api.Heard, now int) api.Errno {
	list := p.at(now)
	i := slices.IndexFunc(list, func(r record) bool { return r.From == h.From && r.Net == h.Net })
	if i < 0 && h.Metric != infinity {
		if len(list) == nets {
			return api.ErrFull
		}
		list = append(list, record{h, now})
	}
	if i >= 0 && (h.Metric != infinity || list[i].metric(now) != infinity) {
		list[i] = record{h, now}
	}
	p.now, p.list = now, list
	return api.OK
}

// learn expects Learn to succeed, or ErrFull if there is no room.
func (p *pair) learn(from int, n api.Net, metric, now int) {
	p.Helper()
	want := p.noteLearn(api.Heard{From: from, Net: n, Metric: metric}, now)
	if err := p.rib.Learn(from, n, metric, now); plain.Told(err) != want {
		p.Fatalf("at %d with %v: Learn(%d, %v, %d, %d) = %v, want %v", p.now, p.list, from, n, metric, now, err, want)
	}
	p.check()
}

// age expects Age to succeed.
func (p *pair) age(now int) {
	p.Helper()
	p.now, p.list = now, p.at(now)
	if err := p.rib.Age(now); err != nil {
		p.Fatalf("with %v: Age(%d) = %v", p.list, now, err)
	}
	p.check()
}

// lose expects Lose to succeed.
func (p *pair) lose(from, now int) {
	p.Helper()
	p.now, p.list = now, p.at(now)
	for i, r := range p.list {
		if r.From == from && r.metric(now) != infinity {
			r.Metric = infinity
			p.list[i] = record{r.Heard, now}
		}
	}
	if err := p.rib.Lose(from, now); err != nil {
		p.Fatalf("with %v: Lose(%d, %d) = %v", p.list, from, now, err)
	}
	p.check()
}

// wantNoLearn expects this error of Learn.
func (p *pair) wantNoLearn(from int, n api.Net, metric, now int, want api.Errno) {
	p.Helper()
	if err := p.rib.Learn(from, n, metric, now); plain.Told(err) != want {
		p.Fatalf("at %d with %v: Learn(%d, %v, %d, %d) = %v, want %v", p.now, p.list, from, n, metric, now, err, want)
	}
	p.check()
}

// wantNoAge expects ErrRange of Age.
func (p *pair) wantNoAge(now int) {
	p.Helper()
	if err := p.rib.Age(now); plain.Told(err) != api.ErrRange {
		p.Fatalf("at %d with %v: Age(%d) = %v, want ErrRange", p.now, p.list, now, err)
	}
	p.check()
}

// wantNoLose expects ErrRange of Lose.
func (p *pair) wantNoLose(from, now int) {
	p.Helper()
	if err := p.rib.Lose(from, now); plain.Told(err) != api.ErrRange {
		p.Fatalf("at %d with %v: Lose(%d, %d) = %v, want ErrRange", p.now, p.list, from, now, err)
	}
	p.check()
}

// drain ages until each change of an entry, which shows the time at which it
// was learned, and until the tick ahead of it.
func (p *pair) drain() {
	p.Helper()
	var times []int
	for _, r := range p.list {
		lost, gone := r.changes()
		times = append(times, lost-1, lost, gone-1, gone)
	}
	slices.Sort(times)
	for _, at := range times {
		if at >= p.now && at <= last {
			p.age(at)
		}
	}
	if p.now < last-expire-collect {
		p.wantList()
	}
}

// net returns a network of 2 bits less than all, the i-th of them.
func net(i int) api.Net {
	return api.Net{Addr: 0x0a000000 + uint32(4*i), Len: 30}
}

// heard returns that a neighbor announces net(i).
func heard(from, i, metric int) api.Heard {
	return api.Heard{From: from, Net: net(i), Metric: metric}
}

// starts returns times, among them some beside powers of two.
func starts() []int {
	return []int{0, 1, 2, 119, 120, 179, 180, 300, 1000, 1<<31 - 1, 1 << 31, 1 << 32, last / 2, last - 1000, last - 301}
}

// fill has all neighbors in turn announce networks, until the rib is full.
func (p *pair) fill(metric, now int) {
	p.Helper()
	for i := range nets {
		p.learn(i%near, net(i), metric, now)
	}
}

func TestExample(t *testing.T) {
	p := newPair(t)
	n := api.Net{Addr: 10 << 24, Len: 8}
	p.learn(1, n, 5, 3)
	p.age(182)
	p.wantList(api.Heard{From: 1, Net: n, Metric: 5})
	p.age(183)
	p.wantList(api.Heard{From: 1, Net: n, Metric: 16})
	p.age(302)
	p.wantList(api.Heard{From: 1, Net: n, Metric: 16})
	p.age(303)
	p.wantList()
	p.wantNoLearn(1, n, 5, 3, api.ErrRange)
}

// TestConstants: the program's numbers are those of the tests.
func TestConstants(t *testing.T) {
	got := []int{api.MaxNear, api.MaxNets, api.Infinity, api.Expire, api.Collect, api.MaxTime}
	if want := []int{near, nets, infinity, expire, collect, last}; !slices.Equal(got, want) {
		t.Errorf("constants %v, want %v", got, want)
	}
}

// TestNew: a new rib is empty, and its time is 0.
func TestNew(t *testing.T) {
	p := newPair(t)
	p.wantList()
	p.wantNoAge(-1)
	p.age(0)
	p.wantList()
	for from := range near {
		q := newPair(t)
		q.lose(from, 0)
		q.wantList()
		q = newPair(t)
		q.learn(from, net(0), 1, 0)
		q.wantList(heard(from, 0, 1))
		q.drain()
	}
	newPair(t).age(last)
}

// TestNeighbors: the first and the last one are neighbors, the numbers beside
// them are none, whether the rib is empty or not.
func TestNeighbors(t *testing.T) {
	p := newPair(t)
	wantNone := func() {
		t.Helper()
		for _, from := range append(sample.NotNodes(near), -1, 8, math.MinInt+1) {
			for _, now := range []int{p.now, p.now + 1, p.now + expire, last} {
				p.wantNoLearn(from, net(0), 5, now, api.ErrRange)
				p.wantNoLearn(from, net(0), infinity, now, api.ErrRange)
				p.wantNoLose(from, now)
			}
		}
	}
	wantNone()
	for from := range near {
		p.learn(from, net(from), 1+from, p.now+1)
		wantNone()
	}
	for from := range near {
		p.lose(from, p.now+1)
		wantNone()
	}
	p.drain()
}

// TestMetrics: those from 1 to 16 can be learned, no others, with an entry and
// without one.
func TestMetrics(t *testing.T) {
	wrong := []int{math.MinInt, -infinity, -1, 0, 17, 18, 32, 256 + 1, 1<<32 + 1, 1<<32 + 16, math.MaxInt}
	for _, with := range []bool{false, true} {
		for metric := 1; metric <= infinity; metric++ {
			p := pairAt(t, 10)
			if with {
				p.learn(3, net(0), 7, 11)
			}
			for _, metric := range wrong {
				p.wantNoLearn(3, net(0), metric, 11, api.ErrRange)
				p.wantNoLearn(3, net(0), metric, 12, api.ErrRange)
			}
			p.learn(3, net(0), metric, 12)
			if with || metric < infinity {
				p.wantList(heard(3, 0, metric))
			} else {
				p.wantList()
			}
			for _, metric := range wrong {
				p.wantNoLearn(3, net(0), metric, 13, api.ErrRange)
			}
			p.drain()
		}
	}
}

// TestNetworks: every network can be learned, of every length, and nothing
// that is no network.
func TestNetworks(t *testing.T) {
	for _, now := range []int{0, 7, expire, last} {
		p := newPair(t)
		for length := range 33 {
			p.learn(length%near, api.Net{Len: length}, 1+length%15, now)
			p.learn(length%near, api.Net{Addr: math.MaxUint32 << (32 - length), Len: length}, 3, now)
			for _, c := range sample.NotNets() {
				for _, metric := range []int{1, 15, infinity} {
					p.wantNoLearn(length%near, c.Net, metric, now, c.Want)
				}
			}
			if length%8 == 7 {
				p = newPair(t)
			}
		}
	}
}

// TestTimes: every act takes the rib's own time and later ones up to MaxTime,
// and no others.
func TestTimes(t *testing.T) {
	wantNone := func(p *pair) {
		t.Helper()
		for _, now := range append(sample.Before(p.now), sample.TooLate()...) {
			p.wantNoAge(now)
			for from := range near {
				p.wantNoLearn(from, net(0), 5, now, api.ErrRange)
				p.wantNoLearn(from, net(0), infinity, now, api.ErrRange)
				p.wantNoLose(from, now)
			}
		}
	}
	for _, start := range append(starts(), last-2, last-1, last) {
		for _, to := range []int{start, start + 1, start + 2, start + 200, last} {
			if to > last {
				continue
			}
			for act := range 3 {
				p := pairAt(t, start)
				wantNone(p)
				p.learn(2, net(0), 4, start)
				wantNone(p)
				switch act {
				case 0:
					p.learn(2, net(1), 5, to)
				case 1:
					p.age(to)
				default:
					p.lose(2, to)
				}
				wantNone(p)
				p.age(to)
				p.lose(3, to)
				p.learn(3, net(2), 6, to)
			}
		}
	}
}

// TestNow: it is the time of the last act that succeeded, of whatever kind,
// also if it found nothing to do.
func TestNow(t *testing.T) {
	p := newPair(t)
	want := func(want int) {
		t.Helper()
		if got := p.rib.Now(); got != want {
			t.Errorf("Now() = %d, want %d", got, want)
		}
	}
	want(0)
	p.learn(0, net(0), infinity, 4)
	want(4)
	p.lose(0, 7)
	want(7)
	p.age(9)
	want(9)
	p.learn(0, net(0), 3, 10)
	want(10)
	p.wantNoAge(9)
	p.wantNoLose(-1, 20)
	p.wantNoLearn(0, net(0), 17, 20, api.ErrRange)
	p.wantNoLearn(0, api.Net{Addr: 1}, 3, 20, api.ErrForm)
	want(10)
	p.lose(0, 12)
	want(12)
	p.learn(0, net(0), infinity, 13)
	want(13)
	p.age(last)
	want(last)
	p.age(last)
	want(last)
}

// TestLearnedAnew: an entry has the last metric and its time, except for 16
// behind 16.
func TestLearnedAnew(t *testing.T) {
	for first := 1; first < infinity; first++ {
		for second := 1; second <= infinity; second++ {
			for third := 1; third <= infinity; third++ {
				for _, gap := range []int{0, 1, 100} {
					p := pairAt(t, 5)
					p.learn(4, net(1), first, 7)
					p.learn(4, net(1), second, 7+gap)
					p.wantList(heard(4, 1, second))
					p.learn(4, net(1), third, 7+2*gap)
					p.wantList(heard(4, 1, third))
					p.drain()
				}
			}
		}
	}
}

// TestLearnedAnewLater: a metric counts from the time at which it was told
// last, also if it is the same, a smaller or a greater one.
func TestLearnedAnewLater(t *testing.T) {
	for _, metric := range []int{1, 4, 5, 6, 15} {
		for _, gap := range []int{0, 1, 60, 120, 178, 179} {
			p := newPair(t)
			p.learn(0, net(0), 5, 10)
			p.learn(0, net(0), metric, 10+gap)
			p.age(10 + gap + 179)
			p.wantList(heard(0, 0, metric))
			p.age(10 + gap + 180)
			p.wantList(heard(0, 0, 16))
			p.age(10 + gap + 299)
			p.wantList(heard(0, 0, 16))
			p.age(10 + gap + 300)
			p.wantList()
		}
	}
}

// TestToldLost: 16 behind less than 16 counts from then on; told again, it is
// not kept longer.
func TestToldLost(t *testing.T) {
	for _, gap := range []int{0, 1, 100, 179} {
		for _, again := range []int{0, 1, 60, 118, 119} {
			p := newPair(t)
			p.learn(0, net(0), 5, 10)
			p.learn(0, net(0), 16, 10+gap)
			p.wantList(heard(0, 0, 16))
			p.learn(0, net(0), 16, 10+gap+again)
			p.wantList(heard(0, 0, 16))
			p.age(10 + gap + 119)
			p.wantList(heard(0, 0, 16))
			p.learn(0, net(0), 16, 10+gap+119)
			p.age(10 + gap + 120)
			p.wantList()
		}
	}
}

// TestFoundAgain: less than 16 behind 16 counts from then on, whether a
// neighbor told 16, was lost or was silent.
func TestFoundAgain(t *testing.T) {
	for way := range 3 {
		for _, gap := range []int{0, 1, 119} {
			for metric := 1; metric < infinity; metric++ {
				p := newPair(t)
				p.learn(6, net(0), 5, 10)
				switch way {
				case 0:
					p.learn(6, net(0), 16, 190)
				case 1:
					p.lose(6, 190)
				default:
					p.age(190)
				}
				p.wantList(heard(6, 0, 16))
				p.learn(6, net(0), metric, 190+gap)
				p.wantList(heard(6, 0, metric))
				p.age(190 + gap + 179)
				p.wantList(heard(6, 0, metric))
				p.age(190 + gap + 180)
				p.wantList(heard(6, 0, 16))
				p.age(190 + gap + 300)
				p.wantList()
			}
		}
	}
}

// TestNothingToLose: 16 without an entry adds none, before there was one and
// behind its removal.
func TestNothingToLose(t *testing.T) {
	for _, start := range starts() {
		p := pairAt(t, start)
		p.learn(1, net(0), 16, start)
		p.wantList()
		p.learn(1, net(0), 5, start)
		p.learn(2, net(0), 16, start)
		p.learn(1, net(1), 16, start)
		p.learn(1, api.Net{Addr: net(0).Addr, Len: 31}, 16, start)
		p.wantList(heard(1, 0, 5))
		p.learn(1, net(0), 16, start+300)
		p.wantList()
		p.age(start + 300)
		p.wantList()
	}
}

// TestSeparate: each neighbor has an entry of its own for each network; a
// network is its address and its length.
func TestSeparate(t *testing.T) {
	a, b, c := net(0), api.Net{Addr: net(0).Addr, Len: 31}, api.Net{Addr: net(1).Addr, Len: 30}
	p := newPair(t)
	for i, n := range []api.Net{a, b, c} {
		for from := range near {
			p.learn(from, n, 1+i+from, 10*i+from)
		}
	}
	if got := len(p.rib.List()); got != 3*near {
		t.Fatalf("%d entries, want %d", got, 3*near)
	}
	p.learn(3, b, 15, 50)
	p.learn(4, b, 16, 51)
	p.lose(5, 52)
	p.learn(5, c, 9, 53)
	p.drain()
}

// TestAges: an entry has its metric for 179 ticks, and is there for 299, as
// seen by every act at that time.
func TestAges(t *testing.T) {
	steps := []int{0, 1, 119, 120, 121, 178, 179, 180, 181, 298, 299, 300, 301, 400, 100000}
	for _, start := range starts() {
		for _, metric := range []int{1, 2, 8, 14, 15} {
			for _, step := range steps {
				if start+step > last {
					continue
				}
				var want []api.Heard
				switch {
				case step < 180:
					want = []api.Heard{heard(7, 2, metric)}
				case step < 300:
					want = []api.Heard{heard(7, 2, 16)}
				}
				for act := range 3 {
					p := newPair(t)
					p.learn(7, net(2), metric, start)
					switch act {
					case 0:
						p.age(start + step)
					case 1:
						p.lose(6, start+step)
					default:
						p.learn(6, net(2), 16, start+step)
					}
					p.wantList(want...)
				}
			}
		}
	}
}

// TestCollected: an entry that was told with 16, or that was lost, is there
// for 119 more ticks, as seen by every act at that time.
func TestCollected(t *testing.T) {
	for _, start := range starts() {
		for _, gap := range []int{0, 1, 100, 179} {
			for _, step := range []int{0, 1, 118, 119, 120, 121, 180, 300} {
				now := start + gap + step
				if now > last {
					continue
				}
				var want []api.Heard
				if step < 120 {
					want = []api.Heard{heard(7, 2, 16)}
				}
				for act := range 6 {
					p := newPair(t)
					p.learn(7, net(2), 4, start)
					if act < 3 {
						p.learn(7, net(2), 16, start+gap)
					} else {
						p.lose(7, start+gap)
					}
					switch act % 3 {
					case 0:
						p.age(now)
					case 1:
						p.lose(7, now)
					default:
						p.learn(7, net(2), 16, now)
					}
					p.wantList(want...)
				}
			}
		}
	}
}

// TestTickByTick: entries of several ages, at every time until the last one is
// gone.
func TestTickByTick(t *testing.T) {
	p := newPair(t)
	for i := range 30 {
		p.learn(i%near, net(i), 1+i%15, 7*i)
	}
	p.lose(3, p.now+1)
	p.learn(2, net(2), 16, p.now+1)
	for p.now < 600 {
		p.age(p.now + 1)
		p.age(p.now)
	}
	p.wantList()
}

// TestOneActAgainstSeveral: one act far ahead leaves what several acts up to
// the same time leave.
func TestOneActAgainstSeveral(t *testing.T) {
	for _, ahead := range []int{1, 119, 120, 121, 179, 180, 181, 250, 299, 300, 301, 1000} {
		for _, step := range []int{1, 7, 60, 119, 120, 180, 299, 300} {
			one, several := newPair(t), newPair(t)
			for _, p := range []*pair{one, several} {
				for i := range 40 {
					p.learn(i%near, net(i), 1+i%15, 5*i)
				}
				p.lose(2, p.now)
				p.learn(1, net(1), 16, p.now)
			}
			to := one.now + ahead
			for several.now < to {
				several.age(min(several.now+step, to))
			}
			one.age(to)
			several.wantList(one.rib.List()...)
			one.drain()
			several.drain()
		}
	}
}

// TestLearnAges: Learn ages all entries before it looks at its own.
func TestLearnAges(t *testing.T) {
	others := func(p *pair, from int) {
		p.learn(0, net(0), 2, from)
		p.learn(1, net(1), 3, from)
	}
	for _, c := range []struct {
		metric, step int
		want         []api.Heard
	}{
		{5, 179, []api.Heard{heard(0, 0, 5), heard(1, 1, 3)}},
		{5, 180, []api.Heard{heard(0, 0, 5), heard(1, 1, 16)}},
		{5, 300, []api.Heard{heard(0, 0, 5)}},
		{16, 179, []api.Heard{heard(0, 0, 16), heard(1, 1, 3)}},
		{16, 180, []api.Heard{heard(0, 0, 16), heard(1, 1, 16)}},
		{16, 299, []api.Heard{heard(0, 0, 16), heard(1, 1, 16)}},
		{16, 300, nil},
	} {
		p := newPair(t)
		others(p, 20)
		p.learn(0, net(0), c.metric, 20+c.step)
		p.wantList(c.want...)
		p.drain()
	}
	// An entry that has aged at the same time is not told with 16 anew.
	p := newPair(t)
	others(p, 0)
	p.learn(0, net(0), 16, 250)
	p.age(299)
	p.wantList(heard(0, 0, 16), heard(1, 1, 16))
	p.age(300)
	p.wantList()
}

// TestLoseAges: Lose ages all entries before it looks at those of the
// neighbor.
func TestLoseAges(t *testing.T) {
	for _, c := range []struct {
		step, gone int // gone: behind learning
	}{{0, 120}, {100, 220}, {179, 299}, {180, 300}, {181, 300}, {250, 300}, {299, 300}} {
		p := newPair(t)
		p.learn(0, net(0), 2, 20)
		p.learn(1, net(1), 3, 20+c.step)
		p.lose(0, 20+c.step)
		p.wantList(heard(0, 0, 16), heard(1, 1, 3))
		p.age(20 + c.gone - 1)
		if got := p.rib.List(); got[0] != heard(0, 0, 16) {
			t.Errorf("%d ticks behind learning: List() = %v", c.gone-1, got)
		}
		p.age(20 + c.gone)
		if got := p.rib.List(); got[0].From == 0 {
			t.Errorf("%d ticks behind learning: List() = %v", c.gone, got)
		}
	}
	p := newPair(t)
	p.learn(0, net(0), 2, 20)
	p.lose(0, 320)
	p.wantList()
	p.learn(1, net(1), 3, 320)
	p.lose(0, 500)
	p.wantList(heard(1, 1, 16))
	p.lose(0, 620)
	p.wantList()
}

// TestLose: all entries of one neighbor are lost, and no others.
func TestLose(t *testing.T) {
	for from := range near {
		p := newPair(t)
		p.fill(6, 50)
		p.lose(from, 60)
		for _, h := range p.rib.List() {
			want := 6
			if h.From == from {
				want = 16
			}
			if h.Metric != want {
				t.Errorf("behind Lose(%d, 60): %v, want metric %d", from, h, want)
			}
		}
		p.lose((from+3)%near, 60)
		p.drain()
	}
}

// TestLoseWithout: a neighbor that announced nothing can be lost.
func TestLoseWithout(t *testing.T) {
	p := newPair(t)
	for from := range near {
		p.lose(from, from)
	}
	p.wantList()
	p.learn(3, net(0), 5, 10)
	for from := range near {
		if from != 3 {
			p.lose(from, 10+from)
		}
	}
	p.wantList(heard(3, 0, 5))
	p.drain()
}

// TestLoseTwice: what is lost already is not kept longer.
func TestLoseTwice(t *testing.T) {
	for _, gap := range []int{0, 1, 60, 119, 120, 121} {
		p := newPair(t)
		p.learn(3, net(0), 5, 10)
		p.learn(3, net(1), 5, 10)
		p.learn(3, net(1), 16, 20)
		p.lose(3, 30)
		p.wantList(heard(3, 0, 16), heard(3, 1, 16))
		p.lose(3, 30+gap)
		p.drain()

		p = newPair(t)
		p.learn(3, net(0), 5, 10)
		p.lose(3, 30)
		p.lose(3, 30+gap)
		p.age(max(149, p.now))
		if gap < 120 {
			p.wantList(heard(3, 0, 16))
		}
		p.age(max(150, p.now))
		p.wantList()
	}
}

// TestLoseAndLearn: a neighbor that was lost and is learned from again.
func TestLoseAndLearn(t *testing.T) {
	for _, gap := range []int{0, 1, 119, 120, 121} {
		p := newPair(t)
		p.learn(3, net(0), 5, 10)
		p.learn(3, net(1), 6, 10)
		p.lose(3, 30)
		p.learn(3, net(0), 7, 30+gap)
		p.learn(3, net(0), 16, 31+gap)
		p.learn(3, net(1), 16, 31+gap)
		p.learn(3, net(1), 8, 32+gap)
		p.learn(3, net(0), 9, 32+gap)
		p.wantList(heard(3, 0, 9), heard(3, 1, 8))
		p.lose(3, 33+gap)
		p.wantList(heard(3, 0, 16), heard(3, 1, 16))
		p.learn(3, net(0), 1, 33+gap)
		p.wantList(heard(3, 0, 1), heard(3, 1, 16))
		p.drain()
	}
}

// TestFull: there is room for 64 entries of all neighbors together, those
// with metric 16 among them; entries that are there can still be learned.
func TestFull(t *testing.T) {
	for _, metric := range []int{1, 7, 15} {
		p := newPair(t)
		p.fill(metric, 100)
		for _, lost := range []bool{false, true} {
			if got := len(p.rib.List()); got != nets {
				t.Fatalf("%d entries, want %d", got, nets)
			}
			for from := range near {
				if lost {
					p.lose(from, 100)
				}
				for _, n := range []api.Net{net(nets), {}, net(from + 1), net(from + near - 1)} {
					p.wantNoLearn(from, n, 1, 100, api.ErrFull)
					p.wantNoLearn(from, n, 15, 150, api.ErrFull)
				}
				p.learn(from, net(nets), 16, 100)
				p.learn(from, net(from), 3, 100)
				p.learn(from, net(from), 16, 100)
				p.learn(from, net(from), 4, 100)
			}
		}
		p.drain()
	}
}

// TestFullOfOne: one neighbor can have all 64 entries; then there is no room
// for another one's.
func TestFullOfOne(t *testing.T) {
	for from := range near {
		p := newPair(t)
		for i := range nets {
			p.learn(from, net(i), 5, i)
		}
		for other := range near {
			p.wantNoLearn(other, net(nets), 5, nets, api.ErrFull)
			if other != from {
				p.wantNoLearn(other, net(0), 5, nets, api.ErrFull)
				p.learn(other, net(0), 16, nets)
			}
		}
		p.learn(from, net(63), 6, nets)
		p.learn(from, net(0), 7, nets)
		p.drain()
	}
}

// TestFullAges: a full rib has room as soon as an entry is removed, which may
// be by the Learn that needs the room.
func TestFullAges(t *testing.T) {
	p := newPair(t)
	p.fill(5, 200)
	for _, now := range []int{200, 319, 320, 379, 380, 381, 499} {
		p.wantNoLearn(1, net(99), 2, now, api.ErrFull)
	}
	p.learn(1, net(99), 2, 500)
	p.wantList(heard(1, 99, 2))
	p.drain()

	p = newPair(t)
	p.fill(5, 200)
	p.lose(4, 210)
	p.wantNoLearn(1, net(99), 2, 329, api.ErrFull)
	for i := range nets / near {
		p.learn(1, net(100+i), 2, 330)
	}
	p.wantNoLearn(1, net(99), 2, 330, api.ErrFull)
	p.drain()
}

// TestSorted: entries are sorted by neighbor and then by network, in whatever
// order they were learned, and whatever their metrics and times are.
func TestSorted(t *testing.T) {
	var want []api.Heard
	for _, from := range []int{0, 3, 7} {
		for i, n := range sample.Ordered() {
			want = append(want, api.Heard{From: from, Net: n, Metric: 1 + (from+7*i)%15})
		}
	}
	for seed := range 300 {
		p := newPair(t)
		for now, h := range sample.Shuffled(want, seed) {
			p.learn(h.From, h.Net, h.Metric, now)
		}
		p.wantList(want...)
		for _, h := range sample.Shuffled(want, seed+1)[:20] {
			p.learn(h.From, h.Net, 16, p.now+1)
			p.learn(h.From, h.Net, h.Metric, p.now+1)
		}
		p.wantList(want...)
	}
}

// TestSortedPairs: the neighbor counts before the network, for every two
// entries in both orders.
func TestSortedPairs(t *testing.T) {
	var all []api.Heard
	for from := range near {
		for _, n := range sample.Ordered() {
			all = append(all, api.Heard{From: from, Net: n, Metric: 1 + len(all)%15})
		}
	}
	for second, b := range all {
		for _, a := range all[:second] {
			p := newPair(t)
			p.learn(a.From, a.Net, a.Metric, 0)
			p.learn(b.From, b.Net, b.Metric, 0)
			p.wantList(a, b)
			p = newPair(t)
			p.learn(b.From, b.Net, b.Metric, 0)
			p.learn(a.From, a.Net, a.Metric, 0)
			p.wantList(a, b)
		}
	}
}

// TestFirstError: neighbor and time come first, then the network, the metric,
// and at last whether there is room.
func TestFirstError(t *testing.T) {
	for _, full := range []bool{false, true} {
		p := pairAt(t, 100)
		if full {
			p.fill(5, 100)
		}
		for _, from := range []int{-1, 0, 7, 8} {
			for _, now := range []int{-1, 99, 100, 101, last, last + 1} {
				for _, c := range append(sample.NotNets(), sample.NotNet{Net: net(nets), Want: api.OK}) {
					for _, metric := range []int{-1, 0, 1, 15, 16, 17} {
						switch {
						case from < 0 || from >= near || now < 100 || now > last:
							p.wantNoLearn(from, c.Net, metric, now, api.ErrRange)
						case c.Want != api.OK:
							p.wantNoLearn(from, c.Net, metric, now, c.Want)
						case metric < 1 || metric > 16:
							p.wantNoLearn(from, c.Net, metric, now, api.ErrRange)
						case full && metric < 16 && now < 400:
							p.wantNoLearn(from, c.Net, metric, now, api.ErrFull)
						}
					}
				}
			}
		}
		p.drain()
	}
}

// wantErrors asks for each error, at times at which entries would have
// changed, and for those that the rib has passed.
func (p *pair) wantErrors() {
	p.Helper()
	for _, ahead := range []int{0, 1, 120, 180, 300, 10000} {
		now := min(p.now+ahead, last)
		p.wantNoLearn(-1, net(0), 5, now, api.ErrRange)
		p.wantNoLearn(near, net(0), 16, now, api.ErrRange)
		p.wantNoLearn(0, net(0), 0, now, api.ErrRange)
		p.wantNoLearn(0, net(0), 17, now, api.ErrRange)
		p.wantNoLearn(0, api.Net{Len: 33}, 5, now, api.ErrRange)
		p.wantNoLearn(0, api.Net{Addr: 1, Len: 8}, 5, now, api.ErrForm)
		p.wantNoLearn(0, api.Net{Addr: net(0).Addr + 1, Len: 30}, 16, now, api.ErrForm)
		p.wantNoLose(-1, now)
		p.wantNoLose(near, now)
		if len(p.at(now)) == nets {
			p.wantNoLearn(0, net(nets), 5, now, api.ErrFull)
		}
	}
	for _, now := range []int{p.now - 1, -1, last + 1} {
		p.wantNoLearn(0, net(0), 5, now, api.ErrRange)
		p.wantNoLearn(0, net(0), 16, now, api.ErrRange)
		p.wantNoAge(now)
		p.wantNoLose(0, now)
	}
}

// TestErrorsChangeNothing: neither the time nor the metric nor the age of an
// entry, in ribs that are empty, ordinary or full.
func TestErrorsChangeNothing(t *testing.T) {
	for _, count := range []int{0, 1, 10, nets - 1, nets} {
		for _, gap := range []int{0, 1, 4} {
			p := newPair(t)
			for i := range count {
				p.learn(i%near, net(i), 1+i%15, gap*i)
				if i%9 == 0 {
					p.wantErrors()
				}
			}
			p.wantErrors()
			p.lose(5, p.now)
			p.wantErrors()
			p.age(p.now)
			p.drain()
		}
	}
}

// shortAct does one of 20 acts that concern a network and two neighbors.
func (p *pair) shortAct(act int) {
	p.Helper()
	now := p.now + act/5*60
	switch act % 5 {
	case 0:
		p.learn(0, net(0), 3, now)
	case 1:
		p.learn(0, net(0), 16, now)
	case 2:
		p.learn(1, net(0), 4, now)
	case 3:
		p.lose(0, now)
	default:
		p.age(now)
	}
}

// TestShortRows: all rows of four acts, at once or behind 60, 120 or 180 ticks.
func TestShortRows(t *testing.T) {
	const acts = 20
	for code := range acts * acts * acts * acts {
		p := newPair(t)
		for rest, row := code, 0; row < 4; rest, row = rest/acts, row+1 {
			p.shortAct(rest % acts)
		}
		p.drain()
	}
}

// mixedAct does one act, which depends on the seed and the step only, on some
// of count networks, up to gap ticks ahead.
func (p *pair) mixedAct(seed, step, count, gap int) {
	p.Helper()
	r := api.Mix(seed, 3*step)
	from, i := r%near, r/near%count
	now := p.now
	if s := api.Mix(seed, 3*step+1); s%4 == 0 {
		now = min(p.now+s/4%(gap+1), last)
	}
	metric := 1 + api.Mix(seed, 3*step+2)%15
	switch kind := r >> 20 % 32; {
	case kind < 20:
		p.learn(from, net(i), metric, now)
	case kind < 25:
		p.learn(from, net(i), 16, now)
	case kind < 28:
		p.age(now)
	case kind < 30:
		p.lose(from, now)
	default:
		p.wantErrors()
	}
}

// TestMixedRows compares List and Now with the list behind every act of long
// rows, with few and many networks, some of more than there is room for, and
// with times that pass slowly and fast.
func TestMixedRows(t *testing.T) {
	for _, start := range []int{0, 1000, last - 20000} {
		for _, count := range []int{1, 2, 7, 20, 100} {
			for seed, gap := range []int{1, 5, 20, 60, 120, 180, 301} {
				p := pairAt(t, start)
				for step := range 600 {
					p.mixedAct(seed+count, step, count, gap)
				}
				p.drain()
			}
		}
	}
}

// TestTwoRibs: an act on one of them does not change the other one.
func TestTwoRibs(t *testing.T) {
	p, q := newPair(t), newPair(t)
	for step := range 3000 {
		acting, other := p, q
		if api.Mix(1, step)%2 == 1 {
			acting, other = q, p
		}
		acting.mixedAct(2, step, 10, 30)
		other.check()
	}
	p.drain()
	q.check()
	q.drain()

	p, q = newPair(t), newPair(t)
	p.fill(5, 100)
	q.learn(0, net(0), 3, 0)
	q.wantList(heard(0, 0, 3))
	q.lose(0, 5)
	p.age(last)
	q.age(6)
	q.wantList(heard(0, 0, 16))
	p.wantList()
}

// spoil changes a list and the memory behind its length.
func spoil(list []api.Heard) {
	list = list[:cap(list)]
	for i := range list {
		list[i] = heard(near-1-i%near, 1000-i, 1+i%infinity)
	}
}

// TestOwnMemory: what List returned can be changed, with the memory behind it,
// and is not changed by later calls.
func TestOwnMemory(t *testing.T) {
	for count := range nets + 1 {
		p := newPair(t)
		for i := range count {
			p.learn(i%near, net(i), 1+i%15, i)
		}
		first, second := p.rib.List(), p.rib.List()
		keep := slices.Clone(second)
		spoil(first)
		p.check()
		if !slices.Equal(second, keep) {
			t.Fatalf("behind a change of another result: %v, want %v", second, keep)
		}
		p.learn(0, net(0), 9, p.now)
		p.lose(1, p.now)
		p.learn(2, net(100), 3, p.now)
		p.age(p.now + 200)
		if !slices.Equal(second, keep) {
			t.Fatalf("behind later acts: %v, want %v", second, keep)
		}
		spoil(second)
		p.check()
		p.drain()
	}
}
