package trie

import (
	"maps"
	"math"
	"slices"
	"testing"

	"waywarden/api"
	"waywarden/plain"
	"waywarden/pref"
	"waywarden/sample"
)

// parse returns the network with this text.
func parse(t *testing.T, s string) api.Net {
	t.Helper()
	n, err := pref.Parse(s)
	if err != nil {
		t.Fatalf("%q is no network", s)
	}
	return n
}

// pair is a table and what it must contain.
type pair struct {
	*testing.T
	table *Table
	model map[api.Net]int
}

func newPair(t *testing.T) pair {
	return pair{t, New(), map[api.Net]int{}}
}

// put expects Put to succeed.
func (p pair) put(n api.Net, v int) {
	p.Helper()
	if err := p.table.Put(n, v); err != nil {
		p.Fatalf("Put(%v, %d) = %v", n, v, err)
	}
	p.model[n] = v
}

// drop expects Drop to succeed.
func (p pair) drop(n api.Net) {
	p.Helper()
	if err := p.table.Drop(n); err != nil {
		p.Fatalf("Drop(%v) = %v", n, err)
	}
	delete(p.model, n)
}

// puts numbers the networks from 1.
func (p pair) puts(nets ...api.Net) {
	p.Helper()
	for i, n := range nets {
		p.put(n, i+1)
	}
}

// wantPut expects an error of Put.
func (p pair) wantPut(n api.Net, want api.Errno) {
	p.Helper()
	if err := p.table.Put(n, 77); plain.Told(err) != want {
		p.Fatalf("Put(%v, 77) = %v, want %v", n, err, want)
	}
}

// wantNot expects this error of Drop and Get.
func (p pair) wantNot(n api.Net, want api.Errno) {
	p.Helper()
	if err := p.table.Drop(n); plain.Told(err) != want {
		p.Fatalf("Drop(%v) = %v, want %v", n, err, want)
	}
	if v, err := p.table.Get(n); v != 0 || plain.Told(err) != want {
		p.Fatalf("Get(%v) = %d, %v, want 0, %v", n, v, err, want)
	}
}

// inside compares with the least and the greatest address of n, without pref.
func inside(n api.Net, a uint32) bool {
	return int(a) >= int(n.Addr) && int(a) < int(n.Addr)+1<<(32-n.Len)
}

// wantFind compares Find with a search of the whole model.
func (p pair) wantFind(a uint32) {
	p.Helper()
	want, length := api.Net{}, -1
	for n := range p.model {
		if n.Len > length && inside(n, a) {
			want, length = n, n.Len
		}
	}
	n, v, err := p.table.Find(a)
	if length < 0 {
		if n != want || v != 0 || plain.Told(err) != api.ErrNone {
			p.Fatalf("with %v: Find(%#x) = %v, %d, %v, want ErrNone", p.model, a, n, v, err)
		}
		return
	}
	if n != want || v != p.model[want] || err != nil {
		p.Fatalf("with %v: Find(%#x) = %v, %d, %v, want %v, %d", p.model, a, n, v, err, want, p.model[want])
	}
}

// list returns the networks of the model, by address and then by length.
func (p pair) list() []api.Net {
	return slices.SortedFunc(maps.Keys(p.model), func(a, b api.Net) int {
		if a.Addr != b.Addr {
			return int(a.Addr) - int(b.Addr)
		}
		return a.Len - b.Len
	})
}

// check compares all that the table tells with the model: its list, each
// number, and what is found at both ends of each network and beside it.
func (p pair) check() {
	p.Helper()
	if got := p.table.List(); !slices.Equal(got, p.list()) {
		p.Fatalf("with %v: List() = %v", p.model, got)
	}
	for n, want := range p.model {
		if v, err := p.table.Get(n); v != want || err != nil {
			p.Fatalf("with %v: Get(%v) = %d, %v, want %d", p.model, n, v, err, want)
		}
		last := n.Addr + uint32(1<<(32-n.Len)-1)
		for _, a := range []uint32{n.Addr, n.Addr - 1, last, last + 1} {
			p.wantFind(a)
		}
	}
	for _, a := range []uint32{0, 1, 0x0a000000, 1<<31 - 1, 1 << 31, 1<<32 - 1} {
		p.wantFind(a)
	}
	p.checkSize()
}

// checkSize: the tree has the root and one node for each of the beginnings of
// its networks, and nothing remains of networks that were dropped.
func (p pair) checkSize() {
	p.Helper()
	begins := map[api.Net]bool{{}: true}
	for n := range p.model {
		for length := range n.Len + 1 {
			begins[api.Net{Addr: n.Addr >> (32 - length) << (32 - length), Len: length}] = true
		}
	}
	var nodes func(at *node) int
	nodes = func(at *node) int {
		if at == nil {
			return 0
		}
		return 1 + nodes(at.next[0]) + nodes(at.next[1])
	}
	if got := nodes(&p.table.root); got != len(begins) {
		p.Fatalf("with %v: %d nodes, want %d", p.model, got, len(begins))
	}
	if len(p.model) == 0 && *p.table != *New() {
		p.Fatalf("%v remains of an empty table", *p.table)
	}
}

func TestEmpty(t *testing.T) {
	p := newPair(t)
	if p.table == nil {
		t.Fatal("New() = nil")
	}
	p.check()
	for length := range 33 {
		p.wantNot(api.Net{Len: length}, api.ErrNone)
	}
	p.check()
}

func TestExample(t *testing.T) {
	p := newPair(t)
	for i, s := range []string{"10.0.0.0/9", "10.0.0.0/8", "192.168.0.0/16"} {
		p.put(parse(t, s), i+1)
		p.check()
	}
	for _, c := range []struct {
		a    uint32
		want string
		v    int
	}{
		{0x0a000007, "10.0.0.0/9", 1},
		{0x0a7fffff, "10.0.0.0/9", 1},
		{0x0a800000, "10.0.0.0/8", 2},
		{0x0affffff, "10.0.0.0/8", 2},
		{0xc0a80101, "192.168.0.0/16", 3},
	} {
		if n, v, err := p.table.Find(c.a); n != parse(t, c.want) || v != c.v || err != nil {
			t.Errorf("Find(%#x) = %v, %d, %v, want %s, %d", c.a, n, v, err, c.want, c.v)
		}
	}
	for _, a := range []uint32{0, 0x09ffffff, 0x0b000000, 0xc0a7ffff, 0xc0a90000, 0xffffffff} {
		if n, v, err := p.table.Find(a); n != (api.Net{}) || v != 0 || plain.Told(err) != api.ErrNone {
			t.Errorf("Find(%#x) = %v, %d, %v, want ErrNone", a, n, v, err)
		}
	}
	p.drop(parse(t, "10.0.0.0/9"))
	p.check()
	if n, v, err := p.table.Find(0x0a000007); n != parse(t, "10.0.0.0/8") || v != 2 || err != nil {
		t.Errorf("Find(10.0.0.7) = %v, %d, %v, want 10.0.0.0/8, 2", n, v, err)
	}
}

// TestNumbers: every int is a number, and the last one counts.
func TestNumbers(t *testing.T) {
	p := newPair(t)
	n := parse(t, "10.0.0.0/8")
	for _, v := range []int{5, 0, -1, 1, 1 << 32, math.MaxInt, math.MinInt, 0} {
		p.put(n, v)
		p.check()
	}
	p.put(parse(t, "10.0.0.0/9"), 3)
	p.put(n, 4)
	p.check()
}

// TestNumberForgotten: a network that is put again has its new number, also
// if that is 0.
func TestNumberForgotten(t *testing.T) {
	p := newPair(t)
	n := parse(t, "10.0.0.0/8")
	p.put(parse(t, "10.0.0.0/16"), 9)
	for _, v := range []int{7, 0, 8} {
		p.put(n, v)
		p.check()
		p.drop(n)
		p.wantNot(n, api.ErrNone)
		p.check()
	}
}

// TestAll addresses are in the network of 0 bits.
func TestAll(t *testing.T) {
	p := newPair(t)
	p.put(api.Net{}, 1)
	p.check()
	for a := 0; a < 1<<32; a += 1 << 20 {
		p.wantFind(uint32(a))
	}
	p.wantNot(api.Net{Len: 1}, api.ErrNone)
	p.put(api.Net{Len: 32}, 2)
	p.put(api.Net{Addr: math.MaxUint32, Len: 32}, 3)
	p.check()
	p.drop(api.Net{})
	p.wantNot(api.Net{}, api.ErrNone)
	p.check()
	p.put(api.Net{}, 4)
	p.check()
}

// TestChain has a network of each length, each within the one before.
func TestChain(t *testing.T) {
	for _, a := range []uint32{0, math.MaxUint32, 0x0a0b0c0d, 0x55555555, 0xaaaaaaaa} {
		var nets []api.Net
		for length := range 33 {
			nets = append(nets, api.Net{Addr: a >> (32 - length) << (32 - length), Len: length})
		}
		for seed := range 5 {
			p := newPair(t)
			p.puts(sample.Shuffled(nets, seed)...)
			p.check()
			for _, n := range sample.Shuffled(nets, seed+5) {
				p.drop(n)
				p.wantNot(n, api.ErrNone)
				p.wantFind(a)
				p.check()
			}
		}
	}
}

// TestNotThere: networks around those in the table, and on the way to them,
// are not in it.
func TestNotThere(t *testing.T) {
	p := newPair(t)
	p.puts(parse(t, "10.0.0.0/8"), parse(t, "10.16.0.0/12"), parse(t, "10.16.1.1/32"))
	for _, s := range []string{
		"0.0.0.0/0", "10.0.0.0/7", "11.0.0.0/8", "10.0.0.0/9", "10.0.0.0/10", "10.0.0.0/11", "10.0.0.0/12",
		"10.16.0.0/13", "10.24.0.0/13", "10.16.1.0/24", "10.16.1.0/31", "10.16.1.0/32", "10.16.1.2/32", "10.0.0.0/32",
	} {
		p.wantNot(parse(t, s), api.ErrNone)
		p.check()
	}
}

// TestDropKeepsOthers drops each one of several networks and puts it again.
func TestDropKeepsOthers(t *testing.T) {
	p := newPair(t)
	var nets []api.Net
	for _, s := range []string{
		"0.0.0.0/0", "0.0.0.0/1", "128.0.0.0/1", "10.0.0.0/8", "10.0.0.0/9", "10.128.0.0/9", "10.0.0.0/31",
		"10.0.0.0/32", "10.0.0.1/32", "10.0.0.2/32", "255.255.255.255/32", "192.168.0.0/16", "192.168.128.0/17",
	} {
		nets = append(nets, parse(t, s))
	}
	p.puts(nets...)
	p.check()
	for i, n := range nets {
		p.drop(n)
		p.check()
		p.wantNot(n, api.ErrNone)
		p.put(n, 100+i)
		p.check()
	}
}

// world returns all networks within addr/length with up to depth bits more.
func world(addr uint32, length, depth int) []api.Net {
	var nets []api.Net
	for more := range depth + 1 {
		for i := range 1 << more {
			nets = append(nets, api.Net{Addr: addr + uint32(i<<(32-length-more)), Len: length + more})
		}
	}
	return nets
}

// TestSmallTables tries all tables of up to three networks of small worlds,
// and drops these in turn.
func TestSmallTables(t *testing.T) {
	for _, nets := range [][]api.Net{world(0, 0, 3), world(0xfffffff8, 29, 3), world(0x0a000000, 8, 3)} {
		for i := range nets {
			for j := range nets {
				for k := range nets {
					p := newPair(t)
					p.puts(nets[i], nets[j], nets[k])
					p.check()
					for _, n := range p.list() {
						p.drop(n)
						p.check()
					}
				}
			}
		}
	}
}

// TestMixedCalls compares long series of calls with the model.
func TestMixedCalls(t *testing.T) {
	for seed, nets := range [][]api.Net{
		world(0, 0, 4), world(0xfffffff0, 28, 4), world(0x0a000000, 8, 4), sample.Hosts(0x0a000000, 80, 3),
		append(world(0, 0, 4), world(0, 28, 4)...), append(world(0x0a000000, 8, 4), sample.Hosts(0x0a000000, 60, 1)...),
	} {
		p := newPair(t)
		for step := range 3000 {
			n := nets[api.Mix(seed, 2*step)%len(nets)]
			_, there := p.model[n]
			put := api.Mix(seed, 2*step+1)%8 >= step/500
			switch {
			case put && (there || len(p.model) < api.MaxNets):
				p.put(n, step)
			case put:
				p.wantPut(n, api.ErrFull)
			case there:
				p.drop(n)
			default:
				p.wantNot(n, api.ErrNone)
			}
			if step%10 == 0 {
				p.check()
			}
		}
		p.check()
	}
}

// TestOrder: the list does not depend on the order of the calls.
func TestOrder(t *testing.T) {
	nets := append(world(0x0a000000, 8, 4), sample.Hosts(0x0a000001, 30, 2)...)
	for seed := range 100 {
		p := newPair(t)
		p.puts(sample.Shuffled(nets, seed)...)
		p.check()
	}
}

// wantFull expects that the table accepts no new network, and all others as
// before.
func (p pair) wantFull(others ...api.Net) {
	p.Helper()
	if len(p.model) != api.MaxNets {
		p.Fatalf("%d networks", len(p.model))
	}
	p.check()
	for _, n := range others {
		p.wantPut(n, api.ErrFull)
		p.wantNot(n, api.ErrNone)
		p.check()
	}
	for i, n := range p.list() {
		p.put(n, -i)
	}
	p.check()
	for _, n := range others {
		p.wantPut(n, api.ErrFull)
	}
	p.check()
}

// TestFull: 64 networks have room, one more has not, whether or not there is
// a node for it already.
func TestFull(t *testing.T) {
	p := newPair(t)
	nets := sample.Hosts(0x0a000000, api.MaxNets, 1)
	for i, n := range nets {
		p.put(n, i)
		p.put(n, i+1) // it is not new
		p.check()
	}
	others := []api.Net{{}, {Len: 1}, {Addr: 0x0a000000, Len: 26}, {Addr: 0x0a000040, Len: 32}, {Len: 32}, {Addr: math.MaxUint32, Len: 32}}
	p.wantFull(others...)
	for i, n := range nets {
		p.drop(n)
		p.check()
		p.put(others[i%len(others)], i)
		p.wantFull(n)
		p.drop(others[i%len(others)])
		p.put(n, i)
		p.wantFull(others...)
	}
}

// TestFullOfNested has 64 networks of all lengths on two ways.
func TestFullOfNested(t *testing.T) {
	p := newPair(t)
	for length := 1; length <= 32; length++ {
		p.put(api.Net{Len: length}, length)
		p.put(api.Net{Addr: math.MaxUint32 << (32 - length), Len: length}, -length)
	}
	p.wantFull(api.Net{}, api.Net{Addr: 1, Len: 32}, api.Net{Addr: 0x80000000, Len: 2})
}

// TestDroppedAreNotCounted puts and drops many more networks than a table has
// room for at once.
func TestDroppedAreNotCounted(t *testing.T) {
	p := newPair(t)
	nets := sample.Hosts(0x0a000000, 10_000, 7)
	for i, n := range nets {
		if i >= api.MaxNets {
			p.drop(nets[i-api.MaxNets])
		}
		p.put(n, i)
	}
	p.wantFull(sample.Hosts(0x0a000000, 1, 1)...)
}

// TestInvalid: the errors of pref.Check precede ErrFull and ErrNone, and
// nothing changes, in tables that are empty, ordinary or full.
func TestInvalid(t *testing.T) {
	ordinary := []api.Net{{}, parse(t, "10.0.0.0/8"), parse(t, "0.0.0.1/32"), parse(t, "255.255.255.254/31")}
	for _, nets := range [][]api.Net{nil, ordinary, sample.Hosts(0, api.MaxNets, 1)} {
		p := newPair(t)
		p.puts(nets...)
		for _, c := range sample.NotNets() {
			p.wantPut(c.Net, c.Want)
			p.wantNot(c.Net, c.Want)
			p.check()
		}
	}
}

// TestApart: tables have nothing in common.
func TestApart(t *testing.T) {
	p, q := newPair(t), newPair(t)
	p.puts(world(0, 0, 4)...)
	q.check()
	q.put(api.Net{}, 50)
	q.puts(sample.Hosts(0, 10, 1)...)
	p.check()
	q.check()
	for _, n := range p.list() {
		p.drop(n)
	}
	p.check()
	q.check()
}

// TestListIsNew: whoever changes or extends a list changes no other list and
// not the table.
func TestListIsNew(t *testing.T) {
	p := newPair(t)
	p.puts(world(0x0a000000, 8, 4)...)
	first, second := p.table.List(), p.table.List()
	for i := range first {
		first[i] = api.Net{Addr: 1, Len: 99}
	}
	if !slices.Equal(second, p.list()) {
		t.Errorf("two lists share memory")
	}
	_ = append(second[:3], api.Net{Len: 77})
	p.check()
	kept := p.table.List()
	want := slices.Clone(kept)
	p.drop(want[0])
	p.put(api.Net{}, 1)
	if !slices.Equal(kept, want) {
		t.Errorf("a list changed with the table: %v, want %v", kept, want)
	}
}

// TestReadingChangesNothing: Get, Find and List, also in vain, add nothing.
func TestReadingChangesNothing(t *testing.T) {
	p := newPair(t)
	p.puts(parse(t, "10.0.0.0/8"), parse(t, "10.0.0.5/32"))
	for range 3 {
		for a := 0; a < 1<<32; a += 1 << 24 {
			p.wantFind(uint32(a))
			p.wantFind(uint32(a) + 5)
			if a != 0x0a000000 {
				p.wantNot(api.Net{Addr: uint32(a), Len: 8}, api.ErrNone)
			}
			p.wantNot(api.Net{Addr: uint32(a), Len: 32}, api.ErrNone)
		}
		p.check()
	}
}
