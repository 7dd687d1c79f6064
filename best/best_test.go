package best

import (
	"cmp"
	"math"
	"slices"
	"testing"

	"waywarden/api"
	"waywarden/plain"
	"waywarden/sample"
)

// The constants of api, written out, so that a test does not follow the
// program if it takes other numbers for them.
const (
	near     = 8
	nets     = 64
	hops     = 4
	infinity = 16
)

// last returns what a neighbor announced last for n, or 0 if it announced
// nothing for it.
func last(l []api.Heard, from int, n api.Net) int {
	for _, h := range slices.Backward(l) {
		if h.From == from && h.Net == n {
			return h.Metric
		}
	}
	return 0
}

// wanted returns what Best must return: it tries one sum after the other,
// until there is a neighbor that has it.
func wanted(l []api.Heard, costs []int, n api.Net) api.Best {
	for sum := 2; sum < infinity; sum++ {
		var by []int
		for from, cost := range costs {
			if metric := last(l, from, n); metric != 0 && cost+metric == sum {
				by = append(by, from)
			}
		}
		if len(by) > 0 {
			return api.Best{Net: n, Metric: sum, Hops: by[:min(len(by), hops)]}
		}
	}
	return api.Best{Net: n, Metric: infinity}
}

func same(a, b api.Best) bool {
	return a.Net == b.Net && a.Metric == b.Metric && slices.Equal(a.Hops, b.Hops)
}

// pair is an engine and, as a plain list, what was announced to it.
type pair struct {
	*testing.T
	engine *Engine
	costs  []int
	list   []api.Heard
	seen   int // length of the list at the last call of Dirty
}

func newPair(t *testing.T, costs ...int) *pair {
	t.Helper()
	e, err := New(costs)
	if e == nil || err != nil {
		t.Fatalf("New(%v) = %v, %v", costs, e, err)
	}
	return &pair{T: t, engine: e, costs: costs}
}

// nets returns the networks that were announced, in order.
func (p *pair) nets() []api.Net {
	var all []api.Net
	for _, h := range p.list {
		if !slices.Contains(all, h.Net) {
			all = append(all, h.Net)
		}
	}
	slices.SortFunc(all, func(a, b api.Net) int {
		return cmp.Or(cmp.Compare(a.Addr, b.Addr), a.Len-b.Len)
	})
	return all
}

// checkNet compares Get, and Best of all announcements, with the list.
func (p *pair) checkNet(n api.Net) {
	p.Helper()
	want := wanted(p.list, p.costs, n)
	if got, err := p.engine.Get(n); !same(got, want) || err != nil {
		p.Fatalf("by %v with %v: Get(%v) = %v, %v, want %v", p.costs, p.list, n, got, err, want)
	}
	if got, err := Best(p.list, p.costs, n); !same(got, want) || err != nil {
		p.Fatalf("Best(%v, %v, %v) = %v, %v, want %v", p.list, p.costs, n, got, err, want)
	}
}

// check compares what is told of all networks with the list.
func (p *pair) check() {
	p.Helper()
	var want []api.Best
	for _, n := range p.nets() {
		p.checkNet(n)
		if b := wanted(p.list, p.costs, n); b.Metric != infinity {
			want = append(want, b)
		}
	}
	if got := p.engine.All(); !slices.EqualFunc(got, want, same) {
		p.Fatalf("by %v with %v: All() = %v, want %v", p.costs, p.list, got, want)
	}
}

// announce expects Set to succeed, or ErrFull if there is no room, without a
// look at what the engine tells then.
func (p *pair) announce(h api.Heard) {
	p.Helper()
	want := api.OK
	if all := p.nets(); len(all) == nets && !slices.Contains(all, h.Net) {
		want = api.ErrFull
	} else {
		p.list = append(p.list, h)
	}
	if err := p.engine.Set(h); plain.Told(err) != want {
		p.Fatalf("by %v with %v: Set(%v) = %v, want %v", p.costs, p.list, h, err, want)
	}
}

// set announces net(i) and compares all that is told.
func (p *pair) set(from, i, metric int) {
	p.Helper()
	p.announce(heard(from, i, metric))
	p.check()
}

// changed returns the networks whose best route is not the one that the list
// had at the last call of Dirty.
func (p *pair) changed() []api.Net {
	var all []api.Net
	for _, n := range p.nets() {
		if !same(wanted(p.list[:p.seen], p.costs, n), wanted(p.list, p.costs, n)) {
			all = append(all, n)
		}
	}
	return all
}

// dirty compares Dirty with the list.
func (p *pair) dirty() {
	p.Helper()
	want := p.changed()
	if got := p.engine.Dirty(); !slices.Equal(got, want) {
		p.Fatalf("by %v with %v, then %v: Dirty() = %v, want %v", p.costs, p.list[:p.seen], p.list[p.seen:], got, want)
	}
	p.seen = len(p.list)
}

// wantDirty expects that Dirty returns these, and that the list agrees.
func (p *pair) wantDirty(want ...int) {
	p.Helper()
	var those []api.Net
	for _, i := range want {
		those = append(those, net(i))
	}
	if all := p.changed(); !slices.Equal(all, those) {
		p.Fatalf("by %v with %v, then %v: %v are changed, want %v", p.costs, p.list[:p.seen], p.list[p.seen:], all, those)
	}
	p.dirty()
}

// wantBest expects this route to net(i), and that the list agrees.
func (p *pair) wantBest(i, metric int, by ...int) {
	p.Helper()
	p.checkNet(net(i))
	if got, err := p.engine.Get(net(i)); !same(got, api.Best{Net: net(i), Metric: metric, Hops: by}) || err != nil {
		p.Fatalf("by %v with %v: Get(%v) = %v, %v, want %d by %v", p.costs, p.list, net(i), got, err, metric, by)
	}
}

// wantNoSet expects this error of Set, and of Best in which the announcement
// is the last one.
func (p *pair) wantNoSet(h api.Heard, want api.Errno) {
	p.Helper()
	if err := p.engine.Set(h); plain.Told(err) != want {
		p.Fatalf("by %v with %v: Set(%v) = %v, want %v", p.costs, p.list, h, err, want)
	}
	if want != api.ErrFull {
		wantNoBest(p.T, append(slices.Clone(p.list), h), p.costs, net(0), want)
	}
}

// wantNoGet expects this error of Get.
func (p *pair) wantNoGet(n api.Net, want api.Errno) {
	p.Helper()
	if got, err := p.engine.Get(n); !same(got, api.Best{}) || plain.Told(err) != want {
		p.Fatalf("by %v with %v: Get(%v) = %v, %v, want %v", p.costs, p.list, n, got, err, want)
	}
}

// wantNoBest expects this error of Best.
func wantNoBest(t *testing.T, l []api.Heard, costs []int, n api.Net, want api.Errno) {
	t.Helper()
	if got, err := Best(l, costs, n); !same(got, api.Best{}) || plain.Told(err) != want {
		t.Fatalf("Best(%v, %v, %v) = %v, %v, want %v", l, costs, n, got, err, want)
	}
}

// net returns a network of 2 bits less than all, the i-th of them.
func net(i int) api.Net {
	return api.Net{Addr: 0x0a000000 + uint32(4*i), Len: 30}
}

// heard returns that a neighbor announces net(i).
func heard(from, i, metric int) api.Heard {
	return api.Heard{From: from, Net: net(i), Metric: metric}
}

// wrong returns numbers that are neither costs nor metrics; some of them are
// in their low bits.
func wrong() []int {
	return []int{math.MinInt, -1 << 32, -16, -1, 0, 17, 18, 32, 256 + 1, 1<<32 + 1, 1<<32 + 16, math.MaxInt}
}

// ones returns the cost 1 for each of n neighbors.
func ones(n int) []int { return slices.Repeat([]int{1}, n) }

func TestExample(t *testing.T) {
	p := newPair(t, 1, 3)
	p.set(0, 0, 4)
	p.wantBest(0, 5, 0)
	p.wantDirty(0)
	p.set(1, 0, 2)
	p.wantBest(0, 5, 0, 1)
	p.wantDirty(0)
	p.wantDirty()
	p.set(0, 0, 16)
	p.wantBest(0, 5, 1)
	p.set(1, 0, 13)
	p.wantBest(0, 16)
	p.wantNoSet(heard(2, 0, 2), api.ErrRange)
}

// TestConstants: the program's numbers are those of the tests.
func TestConstants(t *testing.T) {
	got := []int{api.MaxNear, api.MaxNets, api.MaxHops, api.Infinity}
	if want := []int{near, nets, hops, infinity}; !slices.Equal(got, want) {
		t.Errorf("constants %v, want %v", got, want)
	}
}

// wantCosts expects that Best and New take these costs, or this error of both.
func wantCosts(t *testing.T, costs []int, want api.Errno) {
	t.Helper()
	if want == api.OK {
		p := newPair(t, costs...)
		p.check()
		p.checkNet(net(0))
		p.dirty()
		return
	}
	if e, err := New(costs); e != nil || plain.Told(err) != want {
		t.Errorf("New(%v) = %v, %v, want %v", costs, e, err, want)
	}
	wantNoBest(t, nil, costs, net(0), want)
}

// TestCosts: up to MaxNear of them, each from 1 to 16.
func TestCosts(t *testing.T) {
	wantCosts(t, nil, api.OK)
	wantCosts(t, []int{}, api.OK)
	for n := 1; n <= near; n++ {
		for at := range n {
			for cost := 1; cost <= infinity; cost++ {
				costs := ones(n)
				costs[at] = cost
				wantCosts(t, costs, api.OK)
			}
			for _, cost := range wrong() {
				costs := ones(n)
				costs[at] = cost
				wantCosts(t, costs, api.ErrRange)
				costs[n-1] = 16
				costs[at] = cost
				wantCosts(t, costs, api.ErrRange)
			}
		}
	}
	for _, n := range []int{near + 1, near + 2, 16, 256 + 1, 100000} {
		wantCosts(t, ones(n), api.ErrRange)
		wantCosts(t, slices.Repeat([]int{infinity}, n), api.ErrRange)
		wantCosts(t, make([]int, n), api.ErrRange)
	}
}

// TestNoNeighbor: without neighbors nobody can announce a network, and there
// is no way to any.
func TestNoNeighbor(t *testing.T) {
	p := newPair(t)
	for from := -1; from <= near; from++ {
		p.wantNoSet(heard(from, 0, 1), api.ErrRange)
		p.wantNoSet(api.Heard{From: from, Net: api.Net{Len: 33}, Metric: 17}, api.ErrRange)
		p.wantNoSet(api.Heard{From: from, Net: api.Net{Addr: 1}, Metric: 1}, api.ErrRange)
	}
	p.wantBest(0, 16)
	p.check()
	p.wantDirty()
}

// TestNeighbors: the first and the last one may announce, the numbers beside
// them may not, before and behind other announcements.
func TestNeighbors(t *testing.T) {
	for n := 1; n <= near; n++ {
		p := newPair(t, ones(n)...)
		wantNone := func() {
			t.Helper()
			for _, from := range append(sample.NotNodes(n), near, near+1, 16, 1<<32+near-1) {
				for _, metric := range []int{1, 15, 16} {
					p.wantNoSet(heard(from, 0, metric), api.ErrRange)
					p.wantNoSet(heard(from, 1, metric), api.ErrRange)
				}
			}
			if n < near {
				p.wantNoSet(heard(near-1, 0, 1), api.ErrRange)
			}
			p.check()
		}
		wantNone()
		for from := range n {
			p.set(from, 0, 1+from)
			wantNone()
		}
		p.wantBest(0, 2, 0)
		p.wantDirty(0)
	}
}

// TestMetrics: those from 1 to 16 can be announced, no others, for a network
// that was announced and for a new one.
func TestMetrics(t *testing.T) {
	for metric := 1; metric <= infinity; metric++ {
		p := newPair(t, 1, 1)
		for range 2 {
			for _, w := range wrong() {
				p.wantNoSet(heard(0, 0, w), api.ErrRange)
				p.wantNoSet(heard(1, 0, w), api.ErrRange)
				p.wantNoSet(heard(1, 1, w), api.ErrRange)
			}
			p.check()
			p.set(1, 0, metric)
		}
		if metric < 15 {
			p.wantBest(0, 1+metric, 1)
			p.wantDirty(0)
		} else {
			p.wantBest(0, 16)
			p.wantDirty()
		}
	}
}

// TestNetworks: every network can be announced and asked for, of every length,
// and nothing that is no network.
func TestNetworks(t *testing.T) {
	p := newPair(t, 2, 1)
	wantNone := func() {
		t.Helper()
		for _, c := range sample.NotNets() {
			for _, metric := range []int{1, 15, 16} {
				p.wantNoSet(api.Heard{From: 1, Net: c.Net, Metric: metric}, c.Want)
			}
			p.wantNoGet(c.Net, c.Want)
			wantNoBest(t, p.list, p.costs, c.Net, c.Want)
		}
	}
	for length := range 33 {
		for _, addr := range []uint32{0, math.MaxUint32 << (32 - length)} {
			n := api.Net{Addr: addr, Len: length}
			p.checkNet(n)
			p.announce(api.Heard{From: length % 2, Net: n, Metric: 1 + length%15})
			p.check()
		}
		wantNone()
		p.check()
		if length%16 == 15 {
			p.dirty()
			p = newPair(t, 1, 2)
			wantNone()
		}
	}
}

// TestSums: one neighbor with every cost and every metric; from 16 on there is
// no way.
func TestSums(t *testing.T) {
	for cost := 1; cost <= infinity; cost++ {
		for metric := 1; metric <= infinity; metric++ {
			p := newPair(t, cost)
			p.set(0, 0, metric)
			if cost+metric < infinity {
				p.wantBest(0, cost+metric, 0)
				p.wantDirty(0)
			} else {
				p.wantBest(0, 16)
				p.wantDirty()
			}
			p.wantDirty()
		}
	}
}

// TestTwoSums: two neighbors with every cost and every metric.
func TestTwoSums(t *testing.T) {
	for a := range infinity * infinity {
		for b := range infinity * infinity {
			p := newPair(t, 1+a/infinity, 1+b/infinity)
			p.announce(heard(0, 0, 1+a%infinity))
			p.dirty()
			p.announce(heard(1, 0, 1+b%infinity))
			p.check()
			p.dirty()
		}
	}
}

// TestSumsOf15And16: the least way that is one, and the first that is none.
func TestSumsOf15And16(t *testing.T) {
	p := newPair(t, 1, 8, 14, 15, 16)
	for from, metric := range []int{15, 8, 2, 1, 1} {
		p.set(from, 0, metric)
		p.wantBest(0, 16)
		p.wantDirty()
	}
	p.set(1, 0, 7)
	p.wantBest(0, 15, 1)
	p.wantDirty(0)
	p.set(0, 0, 14)
	p.wantBest(0, 15, 0, 1)
	p.wantDirty(0)
	p.set(2, 0, 1)
	p.wantBest(0, 15, 0, 1, 2)
	p.wantDirty(0)
	for from := range 3 {
		p.set(from, 0, 16)
		p.wantDirty(0)
	}
	p.wantBest(0, 16)
	p.wantDirty()
}

// TestAnnouncedAgain: the last announcement of a neighbor counts, whether its
// metric is smaller, greater, the same or 16, and also if others come between.
func TestAnnouncedAgain(t *testing.T) {
	for first := 1; first <= infinity; first++ {
		for second := 1; second <= infinity; second++ {
			for between := range 4 {
				p := newPair(t, 1, 2)
				p.set(0, 0, first)
				switch between {
				case 1:
					p.set(0, 1, 5)
				case 2:
					p.set(1, 0, 7)
				case 3:
					p.set(1, 1, 5)
					p.set(0, 1, 16)
				}
				p.dirty()
				p.set(0, 0, second)
				p.dirty()
				p.set(0, 0, first)
				p.dirty()
			}
		}
	}
}

// TestLaterGreater: the later announcement of a neighbor counts although the
// one before was better.
func TestLaterGreater(t *testing.T) {
	p := newPair(t, 1, 2)
	p.set(0, 0, 3)
	p.set(1, 0, 4)
	p.wantBest(0, 4, 0)
	p.set(0, 0, 9)
	p.wantBest(0, 6, 1)
	p.set(0, 0, 5)
	p.wantBest(0, 6, 0, 1)
	p.set(0, 0, 1)
	p.wantBest(0, 2, 0)
	p.set(0, 0, 16)
	p.wantBest(0, 6, 1)
	p.set(1, 0, 16)
	p.wantBest(0, 16)
	p.set(1, 0, 13)
	p.wantBest(0, 15, 1)
}

// TestSeparate: an announcement concerns its neighbor and its network only; a
// network is its address and its length.
func TestSeparate(t *testing.T) {
	p := newPair(t, 1, 2, 3)
	all := []api.Net{{Addr: 0x0a000000, Len: 8}, {Addr: 0x0a000000, Len: 9}, {Addr: 0x0a000000, Len: 32}, {Addr: 0x0b000000, Len: 8}, {Addr: 0x0a000001, Len: 32}}
	for step := range 200 {
		r := api.Mix(17, step)
		p.announce(api.Heard{From: r % 3, Net: all[r/4%len(all)], Metric: 1 + r/64%16})
		for _, n := range all {
			p.checkNet(n)
		}
		p.check()
		if step%3 == 0 {
			p.dirty()
		}
	}
}

// TestHops: all sets of neighbors with the least sum, up to MaxHops of which
// are told, in increasing order; the others have greater sums or none.
func TestHops(t *testing.T) {
	for set := range 1 << near {
		for _, other := range []int{0, 8, 14, 16} {
			p := newPair(t, 1, 2, 3, 4, 5, 6, 7, 8)
			var want []int
			for from := range near {
				metric := other
				if set>>from&1 == 1 {
					metric = 8 - from
					want = append(want, from)
				} else if from < 2 && other == 8 {
					metric = 9
				}
				if metric != 0 {
					p.announce(heard(from, 0, metric))
				}
			}
			p.check()
			if len(want) > 0 {
				p.wantBest(0, 9, want[:min(len(want), 4)]...)
			}
			p.dirty()
		}
	}
}

// TestOrderOfAnnouncements: it does not matter in which order neighbors
// announce a network.
func TestOrderOfAnnouncements(t *testing.T) {
	for seed := range 200 {
		p := newPair(t, 5, 4, 3, 2, 1, 2, 3, 4)
		var l []api.Heard
		for from := range near {
			l = append(l, heard(from, 0, 1+api.Mix(seed, from)%4))
		}
		for _, h := range sample.Shuffled(l, seed) {
			p.announce(h)
			p.check()
		}
		got, err := p.engine.Get(net(0))
		if want := wanted(l, p.costs, net(0)); !same(got, want) || err != nil {
			t.Fatalf("with %v: Get = %v, %v, want %v", p.list, got, err, want)
		}
	}
}

// TestFull: there is room for MaxNets networks, also if some of them were only
// announced with 16, and then for other announcements for these.
func TestFull(t *testing.T) {
	for first := 1; first <= infinity; first += 5 {
		p := newPair(t, 1, 2)
		for i := range nets {
			p.announce(heard(i%2, i, first))
		}
		p.check()
		p.dirty()
		wantFull := func() {
			t.Helper()
			for _, metric := range []int{1, 15, 16} {
				p.wantNoSet(heard(0, nets, metric), api.ErrFull)
				p.wantNoSet(heard(1, nets+1, metric), api.ErrFull)
				p.wantNoSet(api.Heard{From: 1, Net: api.Net{}, Metric: metric}, api.ErrFull)
				p.wantNoSet(api.Heard{From: 1, Net: api.Net{Addr: net(0).Addr, Len: 29}, Metric: metric}, api.ErrFull)
			}
			p.wantBest(nets, 16)
			p.check()
			p.dirty()
		}
		wantFull()
		for i := range nets {
			p.announce(heard(1-i%2, i, 1+i%16))
		}
		wantFull()
		for i := range nets {
			p.announce(heard(i%2, i, 16))
			p.announce(heard(1-i%2, i, 16))
		}
		wantFull()
		p.set(0, 5, 3)
		p.wantBest(5, 4, 0)
		p.wantDirty(5)
		wantFull()
	}
}

// TestAlmostFull: the last network for which there is room, and the one
// behind it.
func TestAlmostFull(t *testing.T) {
	for last := range nets {
		p := newPair(t, 1)
		for i := range nets {
			if i != last {
				p.announce(heard(0, i, 2))
			}
		}
		p.announce(heard(0, 0+(last+1)%nets, 3))
		p.announce(heard(0, last, 4))
		p.announce(heard(0, nets, 5))
		if len(p.list) != nets+1 {
			t.Fatalf("%d announcements, want %d", len(p.list), nets+1)
		}
		p.check()
		p.dirty()
	}
}

// TestBestOfMany: Best has no limit of networks.
func TestBestOfMany(t *testing.T) {
	costs := []int{1, 2, 3}
	var l []api.Heard
	for i := range 3*nets + 1 {
		l = append(l, heard(i%3, i, 1+i%16))
	}
	for i := range 3*nets + 2 {
		got, err := Best(l, costs, net(i))
		if want := wanted(l, costs, net(i)); !same(got, want) || err != nil {
			t.Fatalf("Best of %v = %v, %v, want %v", net(i), got, err, want)
		}
	}
	// Long lists too.
	l = slices.Repeat(l, 500)
	l[0].Metric = 16
	if got, err := Best(l, costs, net(0)); !same(got, wanted(l, costs, net(0))) || err != nil {
		t.Fatalf("Best of a long list = %v, %v", got, err)
	}
}

// TestGet: there is no way to a network that was never announced, and asking
// for it does not announce it.
func TestGet(t *testing.T) {
	p := newPair(t, 1)
	for i := range 2 * nets {
		p.wantBest(i, 16)
	}
	p.wantDirty()
	p.check()
	for i := range nets {
		p.announce(heard(0, 2*i, 1))
		p.wantBest(2*i, 2, 0)
		p.wantBest(2*i+1, 16)
	}
	p.check()
	p.dirty()
}

// TestSorted: All and Dirty have the order of networks, not of announcements,
// and All is without those at 16.
func TestSorted(t *testing.T) {
	all := sample.Ordered()
	for seed := range 50 {
		p := newPair(t, 1, 2, 3)
		for i, n := range sample.Shuffled(all, seed) {
			p.announce(api.Heard{From: i % 3, Net: n, Metric: 1 + i%4})
		}
		if got := p.engine.Dirty(); !slices.Equal(got, all) {
			t.Fatalf("Dirty() = %v, want %v", got, all)
		}
		p.seen = len(p.list)
		var told []api.Net
		for _, b := range p.engine.All() {
			told = append(told, b.Net)
		}
		if !slices.Equal(told, all) {
			t.Fatalf("All() has %v, want %v", told, all)
		}
		for i, n := range sample.Shuffled(all, seed+1) {
			if i%2 == 0 {
				for from := range 3 {
					p.announce(api.Heard{From: from, Net: n, Metric: 16 - i%3*from%2})
				}
			}
		}
		p.check()
		p.dirty()
	}
}

// TestSortedPairs: each two networks, in both orders.
func TestSortedPairs(t *testing.T) {
	all := sample.Ordered()
	for j := range all {
		for i := range j {
			for _, l := range [][]api.Net{{all[i], all[j]}, {all[j], all[i]}} {
				p := newPair(t, 1)
				for _, n := range l {
					p.announce(api.Heard{Net: n, Metric: 2})
				}
				p.check()
				if got, want := p.engine.Dirty(), []api.Net{all[i], all[j]}; !slices.Equal(got, want) {
					t.Fatalf("with %v: Dirty() = %v, want %v", p.list, got, want)
				}
			}
		}
	}
}

// TestDirtyBehindNew: nothing is changed; an announcement without a way
// changes nothing.
func TestDirtyBehindNew(t *testing.T) {
	for n := range near + 1 {
		p := newPair(t, ones(n)...)
		p.wantDirty()
		p.wantDirty()
		for from := range n {
			p.set(from, 0, 16)
			p.set(from, 1, 15)
			p.wantDirty()
		}
	}
}

// TestDirtyAlone: one more announcement for a network that has ways, and all
// that it can change.
func TestDirtyAlone(t *testing.T) {
	cases := []struct {
		from, metric int
		dirty        bool
	}{
		{0, 4, false},  // it was announced so before
		{0, 3, true},   // a smaller sum
		{0, 5, true},   // a greater sum: another hop is left
		{0, 16, true},  // no way
		{1, 4, false},  // the other one's again
		{1, 2, true},   // a smaller sum by it alone
		{1, 16, true},  // one hop less, the same metric
		{2, 5, false},  // a greater sum than the least one
		{2, 4, false},  // one more than the least sum
		{2, 3, true},   // one hop more, the same metric
		{2, 2, true},   // a smaller sum by it alone
		{2, 16, false}, // it has no way as before
	}
	for _, c := range cases {
		p := newPair(t, 2, 2, 3)
		p.set(0, 0, 4)
		p.set(1, 0, 4)
		p.set(0, 1, 9)
		p.wantBest(0, 6, 0, 1)
		p.wantDirty(0, 1)
		p.wantDirty()
		p.set(c.from, 0, c.metric)
		if c.dirty {
			p.wantDirty(0)
		} else {
			p.wantDirty()
		}
		p.wantDirty()
		p.wantDirty()
	}
}

// TestDirtyByHopsAlone: neighbors come and go that have the same sum. One more
// than MaxHops of them is no change, unless it comes before one that is told.
func TestDirtyByHopsAlone(t *testing.T) {
	p := newPair(t, ones(near)...)
	for from := 1; from < near; from++ {
		p.set(from, 0, 3)
		if from <= hops {
			p.wantDirty(0)
		} else {
			p.wantDirty()
		}
	}
	p.wantBest(0, 4, 1, 2, 3, 4)
	p.set(7, 0, 16)
	p.wantDirty()
	p.set(0, 0, 3)
	p.wantBest(0, 4, 0, 1, 2, 3)
	p.wantDirty(0)
	p.set(4, 0, 7)
	p.wantDirty()
	p.set(2, 0, 4)
	p.wantBest(0, 4, 0, 1, 3, 5)
	p.wantDirty(0)
	p.set(0, 0, 16)
	p.wantBest(0, 4, 1, 3, 5, 6)
	p.wantDirty(0)
	p.set(6, 0, 5)
	p.wantBest(0, 4, 1, 3, 5)
	p.wantDirty(0)
	p.wantDirty()
}

// TestDirtyByMetricAlone: the same neighbors, at another distance.
func TestDirtyByMetricAlone(t *testing.T) {
	p := newPair(t, 1, 2)
	for metric := 1; metric <= infinity; metric++ {
		p.set(0, 0, metric)
		if metric < infinity {
			p.wantDirty(0)
		} else {
			p.wantDirty()
		}
	}
	p.set(1, 0, 13)
	p.wantDirty(0)
	p.set(1, 0, 12)
	p.wantDirty(0)
}

// TestChangedBack: what has changed and is again what it was at the last call
// of Dirty is not among its networks.
func TestChangedBack(t *testing.T) {
	p := newPair(t, 1, 1)
	p.set(0, 0, 5)
	p.set(0, 0, 16)
	p.wantDirty() // since New
	p.set(0, 0, 5)
	p.wantDirty(0)
	for _, metric := range []int{1, 4, 6, 15, 16} {
		p.set(0, 0, metric)
		p.set(0, 0, 5)
		p.wantDirty()
		p.set(1, 0, metric)
		p.set(1, 0, 16)
		p.wantDirty()
	}
	// The other neighbor takes the place of the first one, and gives it back.
	p.set(1, 0, 4)
	p.set(0, 0, 16)
	p.set(0, 0, 5)
	p.set(1, 0, 9)
	p.wantDirty()
	// In two steps, each of which Dirty sees, both are changes.
	p.set(0, 0, 6)
	p.wantDirty(0)
	p.set(0, 0, 5)
	p.wantDirty(0)
	// The metric is what it was, the hop is not.
	p.set(1, 0, 5)
	p.set(0, 0, 16)
	p.wantDirty(0)
}

// TestDirtySomeNets: those that changed since the last call, and no others.
func TestDirtySomeNets(t *testing.T) {
	p := newPair(t, 1, 2)
	for i := range nets {
		p.announce(heard(0, i, 5))
	}
	p.dirty()
	p.announce(heard(0, 63, 4))
	p.announce(heard(0, 0, 4))
	p.announce(heard(1, 17, 4))
	p.announce(heard(1, 18, 5))
	p.announce(heard(0, 40, 16))
	p.announce(heard(1, 41, 1))
	p.wantDirty(0, 17, 40, 41, 63)
	p.wantDirty()
	p.announce(heard(1, 40, 16))
	p.announce(heard(0, 41, 2))
	p.wantDirty(41)
	p.check()
}

// TestReadingChangesNothing: Get, All and Best may be called without an effect
// on what is told later.
func TestReadingChangesNothing(t *testing.T) {
	p := newPair(t, 1, 2)
	p.announce(heard(0, 0, 3))
	for range 3 {
		p.check()
	}
	p.wantDirty(0)
	p.announce(heard(0, 0, 4))
	p.check()
	p.check()
	p.wantDirty(0)
	p.check()
	p.wantDirty()
}

// TestShortRows: all rows of four acts with two neighbors and two networks.
func TestShortRows(t *testing.T) {
	metrics := []int{2, 3, 16}
	acts := 4*len(metrics) + 1
	for row := range acts * acts * acts * acts {
		p := newPair(t, 1, 2)
		for rest, at := row, 0; at < 4; at++ {
			act := rest % acts
			rest /= acts
			if act == acts-1 {
				p.dirty()
			} else {
				p.announce(heard(act%2, act/2%2, metrics[act/4]))
			}
		}
		p.check()
		p.dirty()
		p.dirty()
	}
}

// TestMixedRows: long rows of acts, many of them with networks that are new
// when there is no room left.
func TestMixedRows(t *testing.T) {
	for seed := range 40 {
		var costs []int
		for from := range 1 + seed%near {
			costs = append(costs, 1+api.Mix(seed, -1-from)%(3+seed%14))
		}
		p := newPair(t, costs...)
		for step := range 250 {
			r := api.Mix(seed, step)
			from, i, metric := r%len(costs), r/8%(2+seed*2), 1+r/1024%(4+seed%13)
			switch r / (1 << 20) % 8 {
			case 0:
				p.dirty()
			case 1:
				p.announce(heard(from, i, 16))
			case 2:
				p.wantNoSet(heard(len(costs), i, metric), api.ErrRange)
			default:
				p.announce(heard(from, i, metric))
			}
			if step%50 == 0 {
				p.check()
			}
			p.checkNet(net(i))
		}
		p.check()
		p.dirty()
	}
}

// TestOneByOne: an engine that is told one announcement after the other tells
// what Best tells of all of them, in other words of every beginning of a list.
func TestOneByOne(t *testing.T) {
	costs := []int{3, 1, 4, 1, 5, 9, 2, 6}
	e, err := New(costs)
	if err != nil {
		t.Fatal(err)
	}
	var l []api.Heard
	for step := range 1500 {
		r := api.Mix(99, step)
		h := heard(r%near, r/8%10, 1+r/1024%16)
		l = append(l, h)
		if err := e.Set(h); err != nil {
			t.Fatalf("Set(%v) = %v", h, err)
		}
		got, err := e.Get(h.Net)
		want, wantErr := Best(l, costs, h.Net)
		if !same(got, want) || err != nil || wantErr != nil {
			t.Fatalf("after %d: Get(%v) = %v, %v, but Best = %v, %v", step, h.Net, got, err, want, wantErr)
		}
	}
}

// TestFirstErrorOfSet: the neighbor, then the network, then the metric, then
// the room.
func TestFirstErrorOfSet(t *testing.T) {
	full := newPair(t, 1, 1)
	for i := range nets {
		full.announce(heard(0, i, 1))
	}
	for _, p := range []*pair{newPair(t, 1, 1), full} {
		for _, from := range []int{-1, 2} {
			for _, c := range append(sample.NotNets(), sample.NotNet{Net: net(0)}, sample.NotNet{Net: net(nets)}) {
				for _, metric := range []int{0, 1, 17} {
					p.wantNoSet(api.Heard{From: from, Net: c.Net, Metric: metric}, api.ErrRange)
				}
			}
		}
		for _, c := range sample.NotNets() {
			for _, metric := range []int{0, 1, 17} {
				p.wantNoSet(api.Heard{From: 1, Net: c.Net, Metric: metric}, c.Want)
			}
		}
		for _, metric := range []int{0, 17} {
			p.wantNoSet(heard(1, 0, metric), api.ErrRange)
			p.wantNoSet(heard(1, nets, metric), api.ErrRange)
		}
		p.check()
	}
	full.wantNoSet(heard(1, nets, 1), api.ErrFull)
}

// TestFirstErrorOfBest: the costs, then the announcements, each of which with
// all its errors before the next one, then the network.
func TestFirstErrorOfBest(t *testing.T) {
	good := []int{1, 1}
	notForm := api.Net{Addr: 1}
	notRange := api.Net{Len: 33}
	bad := func(from int, n api.Net, metric int) api.Heard { return api.Heard{From: from, Net: n, Metric: metric} }
	cases := []struct {
		l     []api.Heard
		costs []int
		n     api.Net
		want  api.Errno
	}{
		{nil, []int{0}, notForm, api.ErrRange},
		{nil, ones(9), notForm, api.ErrRange},
		{[]api.Heard{bad(0, notForm, 1)}, []int{1, 17}, net(0), api.ErrRange},
		{[]api.Heard{bad(0, notForm, 1)}, ones(9), net(0), api.ErrRange},
		{nil, good, notForm, api.ErrForm},
		{nil, good, notRange, api.ErrRange},
		{[]api.Heard{bad(2, notForm, 1)}, good, notForm, api.ErrRange},
		{[]api.Heard{bad(0, notForm, 1)}, good, notRange, api.ErrForm},
		{[]api.Heard{bad(0, notForm, 0)}, good, notRange, api.ErrForm},
		{[]api.Heard{bad(0, notRange, 1)}, good, notForm, api.ErrRange},
		{[]api.Heard{bad(0, net(0), 0)}, good, notForm, api.ErrRange},
		{[]api.Heard{bad(0, net(0), 17)}, good, notForm, api.ErrRange},
		{[]api.Heard{bad(0, notForm, 1), bad(-1, net(0), 1)}, good, net(0), api.ErrForm},
		{[]api.Heard{bad(0, notForm, 1), bad(0, notRange, 1)}, good, net(0), api.ErrForm},
		{[]api.Heard{bad(0, net(0), 17), bad(0, notForm, 1)}, good, net(0), api.ErrRange},
		{[]api.Heard{bad(0, notRange, 1), bad(0, notForm, 1)}, good, net(0), api.ErrRange},
		{[]api.Heard{heard(0, 0, 1), heard(1, 1, 1), bad(1, notForm, 17), bad(2, net(0), 1)}, good, notRange, api.ErrForm},
		{[]api.Heard{heard(0, 0, 1), heard(1, 1, 1)}, good, notForm, api.ErrForm},
	}
	for _, c := range cases {
		wantNoBest(t, c.l, c.costs, c.n, c.want)
	}
	// An announcement for another network is checked as well.
	l := slices.Repeat([]api.Heard{heard(0, 1, 2)}, 20)
	for i := range l {
		other := slices.Clone(l)
		other[i].Metric = 17
		wantNoBest(t, other, good, net(0), api.ErrRange)
		other[i] = api.Heard{From: 1, Net: notForm, Metric: 1}
		wantNoBest(t, other, good, net(0), api.ErrForm)
	}
}

// TestErrorsChangeNothing: what an act with an error would have changed is as
// it was, for Dirty too.
func TestErrorsChangeNothing(t *testing.T) {
	p := newPair(t, 1, 2, 3)
	for i := range nets {
		p.announce(heard(i%3, i, 1+i%15))
		for _, r := range []api.Heard{
			heard(-1, i, 1), heard(3, i, 1), heard(0, i, 0), heard(0, i, 17), heard(0, i+1, 17), heard(7, i+1, 1),
			{From: 0, Net: api.Net{Addr: net(i).Addr, Len: 4}, Metric: 1},
			{From: 0, Net: api.Net{Addr: net(i).Addr, Len: 33}, Metric: 1},
		} {
			if p.engine.Set(r) == nil {
				t.Fatalf("Set(%v) succeeded", r)
			}
		}
		p.wantNoGet(api.Net{Addr: 1}, api.ErrForm)
		p.wantBest(i+1, 16)
	}
	p.check()
	p.dirty()
	for i := range nets {
		p.wantNoSet(heard(0, i, 0), api.ErrRange)
		p.wantNoSet(heard(3, i, 1), api.ErrRange)
		p.wantNoSet(heard(0, nets+i, 1), api.ErrFull)
	}
	p.wantDirty()
	p.check()
}

// TestTwoEngines: what one is told the other does not tell.
func TestTwoEngines(t *testing.T) {
	costs := []int{1, 2}
	a, b := newPair(t, costs...), newPair(t, costs...)
	for step := range 300 {
		p, q := a, b
		if api.Mix(5, step)%2 == 0 {
			p, q = b, a
		}
		r := api.Mix(6, step)
		p.announce(heard(r%2, r/2%8, 1+r/16%16))
		p.check()
		q.check()
		if r/512%3 == 0 {
			q.dirty()
		}
	}
	a.dirty()
	b.dirty()
}

// TestCostsAreNotKept: costs that were handed in may be written into later,
// and are not written into; nor is the memory behind them.
func TestCostsAreNotKept(t *testing.T) {
	all := []int{1, 2, 3, 4, 5}
	costs := all[:3]
	e, err := New(costs)
	if err != nil {
		t.Fatal(err)
	}
	p := &pair{T: t, engine: e, costs: []int{1, 2, 3}}
	for i := range 5 {
		p.set(i%3, i, 2+i)
	}
	if want := []int{1, 2, 3, 4, 5}; !slices.Equal(all, want) {
		t.Errorf("costs are %v, want %v", all, want)
	}
	for _, cost := range []int{9, 0, 100, -1} {
		for i := range all {
			all[i] = cost
		}
		p.check()
		p.set(2, 0, 1)
		p.dirty()
	}
	p.wantNoSet(heard(3, 0, 1), api.ErrRange)
}

// TestArgumentsStayAsTheyWere: Best changes neither announcements nor costs,
// nor the memory behind them.
func TestArgumentsStayAsTheyWere(t *testing.T) {
	l := []api.Heard{heard(2, 1, 3), heard(0, 0, 4), heard(1, 0, 2), heard(0, 0, 1), heard(7, 7, 77)}
	costs := []int{4, 3, 2, 99, 98}
	wasL, wasCosts := slices.Clone(l), slices.Clone(costs)
	got, err := Best(l[:4], costs[:3], net(0))
	if want := (api.Best{Net: net(0), Metric: 5, Hops: []int{0, 1}}); !same(got, want) || err != nil {
		t.Errorf("Best = %v, %v, want %v", got, err, want)
	}
	wantNoBest(t, l, costs[:3], net(0), api.ErrRange)
	if !slices.Equal(l, wasL) || !slices.Equal(costs, wasCosts) {
		t.Errorf("arguments are %v, %v, want %v, %v", l, costs, wasL, wasCosts)
	}
}

// TestOwnMemory: what was told may be written into, and does not change what
// is told later.
func TestOwnMemory(t *testing.T) {
	p := newPair(t, ones(6)...)
	for from := range 6 {
		for i := range 5 {
			p.set(from, i, 3)
		}
	}
	spoil := func() {
		for i := range 5 {
			b, _ := p.engine.Get(net(i))
			sample.Spoil(b.Hops)
			b, _ = Best(p.list, p.costs, net(i))
			sample.Spoil(b.Hops)
		}
		all := p.engine.All()
		for i := range all {
			sample.Spoil(all[i].Hops)
			all[i] = api.Best{}
		}
		all = all[:cap(all)]
		for i := range all {
			all[i].Metric = -1
		}
		p.check()
	}
	spoil()
	dirty := p.engine.Dirty()
	p.seen = len(p.list)
	if len(dirty) != 5 {
		t.Fatalf("Dirty() = %v, want 5 networks", dirty)
	}
	dirty = dirty[:cap(dirty)]
	for i := range dirty {
		dirty[i] = api.Net{}
	}
	p.check()
	p.wantDirty()
	spoil()
	p.wantDirty()
	p.set(0, 3, 2)
	spoil()
	p.wantDirty(3)
}

// TestHopsOfAllAreSeparate: no two routes share memory, so one may be extended.
func TestHopsOfAllAreSeparate(t *testing.T) {
	p := newPair(t, ones(3)...)
	for from := range 3 {
		for i := range 6 {
			p.announce(heard(from, i, 1+i))
		}
	}
	all := p.engine.All()
	for i := range all {
		all[i].Hops = append(all[i].Hops, 100+i)
		sample.Spoil(all[i].Hops[3:])
		for j := range all {
			if j != i && !slices.Equal(all[j].Hops[:3], []int{0, 1, 2}) {
				t.Fatalf("Hops of %d are %v", j, all[j].Hops)
			}
		}
		sample.Spoil(all[i].Hops)
		copy(all[i].Hops, []int{0, 1, 2})
	}
}

// TestNoEngine: the nil that New returns with an error tells nothing, and
// panics nowhere.
func TestNoEngine(t *testing.T) {
	e, err := New([]int{0})
	if e != nil || err == nil {
		t.Fatalf("New = %v, %v", e, err)
	}
	if err := e.Set(heard(0, 0, 1)); plain.Told(err) != api.ErrRange {
		t.Errorf("Set = %v, want ErrRange", err)
	}
	if got, err := e.Get(net(0)); !same(got, api.Best{Net: net(0), Metric: 16}) || err != nil {
		t.Errorf("Get = %v, %v", got, err)
	}
	if all, dirty := e.All(), e.Dirty(); len(all) != 0 || len(dirty) != 0 {
		t.Errorf("All, Dirty = %v, %v", all, dirty)
	}
}
