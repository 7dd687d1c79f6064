package cover

import (
	"math"
	"math/bits"
	"slices"
	"testing"

	"waywarden/api"
	"waywarden/plain"
	"waywarden/pref"
	"waywarden/sample"
)

// parse returns the networks with these texts.
func parse(t *testing.T, texts ...string) []api.Net {
	t.Helper()
	var nets []api.Net
	for _, s := range texts {
		n, err := pref.Parse(s)
		if err != nil {
			t.Fatalf("%q is no network", s)
		}
		nets = append(nets, n)
	}
	return nets
}

// wantCover checks what Cover and Size return for l.
func wantCover(t *testing.T, l, want []api.Net, size int) {
	t.Helper()
	if got, err := Cover(l); err != nil || !slices.Equal(got, want) {
		t.Errorf("Cover(%v) = %v, %v, want %v", l, got, err, want)
	}
	if got, err := Size(l); err != nil || got != size {
		t.Errorf("Size(%v) = %d, %v, want %d", l, got, err, size)
	}
}

// wantError checks that Cover and Size return this error and nothing else.
func wantError(t *testing.T, l []api.Net, want api.Errno) {
	t.Helper()
	if got, err := Cover(l); len(got) != 0 || plain.Told(err) != want {
		t.Errorf("Cover(%v) = %v, %v, want none, %v", l, got, err, want)
	}
	if got, err := Size(l); got != 0 || plain.Told(err) != want {
		t.Errorf("Size(%v) = %d, %v, want 0, %v", l, got, err, want)
	}
}

func TestCoverOfTexts(t *testing.T) {
	for _, c := range []struct {
		name    string
		l, want []string
		size    int
	}{
		{"the example", []string{"10.128.0.0/9", "10.0.0.0/9", "10.0.0.5/32"}, []string{"10.0.0.0/8"}, 1 << 24},
		{"one network", []string{"10.0.0.0/8"}, []string{"10.0.0.0/8"}, 1 << 24},
		{"one address", []string{"255.255.255.255/32"}, []string{"255.255.255.255/32"}, 1},
		{"all addresses", []string{"0.0.0.0/0"}, []string{"0.0.0.0/0"}, 1 << 32},
		{"all addresses by halves", []string{"128.0.0.0/1", "0.0.0.0/1"}, []string{"0.0.0.0/0"}, 1 << 32},
		{"all and a few", []string{"9.0.0.0/8", "0.0.0.0/0", "128.0.0.0/1"}, []string{"0.0.0.0/0"}, 1 << 32},
		{"apart", []string{"192.168.0.0/16", "10.0.0.0/8"}, []string{"10.0.0.0/8", "192.168.0.0/16"}, 1<<24 + 1<<16},
		{"twice", []string{"10.0.0.0/8", "10.0.0.0/8"}, []string{"10.0.0.0/8"}, 1 << 24},
		{"one address twice", []string{"0.0.0.1/32", "0.0.0.1/32"}, []string{"0.0.0.1/32"}, 1},
		{"twice, not in succession", []string{"10.0.0.0/9", "11.0.0.0/9", "10.0.0.0/9"}, []string{"10.0.0.0/9", "11.0.0.0/9"}, 1 << 24},
		{"a half twice", []string{"10.0.0.0/9", "10.0.0.0/9", "10.128.0.0/9"}, []string{"10.0.0.0/8"}, 1 << 24},
		{"within, first half", []string{"10.0.0.0/9", "10.0.0.0/8"}, []string{"10.0.0.0/8"}, 1 << 24},
		{"within, second half", []string{"10.0.0.0/8", "10.128.0.0/9"}, []string{"10.0.0.0/8"}, 1 << 24},
		{"within, far within", []string{"10.0.0.0/8", "10.1.2.3/32", "10.9.0.0/16"}, []string{"10.0.0.0/8"}, 1 << 24},
		{"within, the last address", []string{"10.255.255.255/32", "10.0.0.0/8"}, []string{"10.0.0.0/8"}, 1 << 24},
		{"adjacent, but no halves", []string{"0.0.0.1/32", "0.0.0.2/32"}, []string{"0.0.0.1/32", "0.0.0.2/32"}, 2},
		{"adjacent, with different lengths", []string{"10.0.0.0/9", "10.128.0.0/10"}, []string{"10.0.0.0/9", "10.128.0.0/10"}, 3 << 22},
		{"adjacent, the shorter one second", []string{"10.64.0.0/10", "10.128.0.0/9"}, []string{"10.64.0.0/10", "10.128.0.0/9"}, 3 << 22},
		{"halves of halves", []string{"10.192.0.0/10", "10.64.0.0/10", "10.0.0.0/10", "10.128.0.0/10"}, []string{"10.0.0.0/8"}, 1 << 24},
		{"one joined after the other", []string{"0.0.0.0/32", "0.0.0.1/32", "0.0.0.2/31", "0.0.0.4/30"}, []string{"0.0.0.0/29"}, 8},
		{"joined from the end", []string{"0.0.0.0/30", "0.0.0.4/31", "0.0.0.6/32", "0.0.0.7/32"}, []string{"0.0.0.0/29"}, 8},
		{"joined, then one within", []string{"10.0.0.0/9", "10.128.0.0/9", "10.200.0.0/16"}, []string{"10.0.0.0/8"}, 1 << 24},
		{"three quarters", []string{"10.0.0.0/10", "10.64.0.0/10", "10.192.0.0/10"}, []string{"10.0.0.0/9", "10.192.0.0/10"}, 3 << 22},
		{"the two ends", []string{"255.255.255.255/32", "0.0.0.0/32"}, []string{"0.0.0.0/32", "255.255.255.255/32"}, 2},
		{"the two ends as quarters", []string{"192.0.0.0/2", "0.0.0.0/2"}, []string{"0.0.0.0/2", "192.0.0.0/2"}, 1 << 31},
	} {
		t.Run(c.name, func(t *testing.T) {
			l, want := parse(t, c.l...), parse(t, c.want...)
			wantCover(t, l, want, c.size)
			slices.Reverse(l)
			wantCover(t, l, want, c.size)
		})
	}
}

func TestEmpty(t *testing.T) {
	for _, l := range [][]api.Net{nil, {}} {
		wantCover(t, l, nil, 0)
		for _, a := range []uint32{0, 1, 0x0a000000, 0xffffffff} {
			if Has(l, a) {
				t.Errorf("Has(%v, %#x) = true", l, a)
			}
		}
	}
}

// world is a network divided into 8 blocks: the 15 networks that consist of
// blocks are few enough to try all of their subsets.
type world struct {
	addr   uint32
	length int
	nets   []api.Net
	blocks []int // for each network a set of the blocks in it, as bits
}

func newWorld(addr uint32, length int) world {
	w := world{addr: addr, length: length}
	for depth := range 4 {
		size := 8 >> depth
		for i := range 1 << depth {
			w.nets = append(w.nets, api.Net{Addr: addr + uint32(i*size*w.blockSize()), Len: length + depth})
			w.blocks = append(w.blocks, (1<<size-1)<<(i*size))
		}
	}
	return w
}

func (w world) blockSize() int { return 1 << (32 - w.length - 3) }

// chosen returns the networks of the subset, and the blocks in them.
func (w world) chosen(subset int) ([]api.Net, int) {
	var nets []api.Net
	var blocks int
	for i, n := range w.nets {
		if subset>>i&1 == 1 {
			nets = append(nets, n)
			blocks |= w.blocks[i]
		}
	}
	return nets, blocks
}

// smallest returns, for each set of blocks, the smallest list that contains
// exactly these, and fails if there are two.
func (w world) smallest(t *testing.T) [256][]api.Net {
	var least [256][]api.Net
	var count, unique [256]int
	for subset := range 1 << len(w.nets) {
		nets, blocks := w.chosen(subset)
		if unique[blocks] == 0 || len(nets) < count[blocks] {
			least[blocks], count[blocks], unique[blocks] = nets, len(nets), 1
		} else if len(nets) == count[blocks] {
			unique[blocks]++
		}
	}
	for blocks, n := range unique {
		if n != 1 {
			t.Fatalf("%d smallest lists for the blocks %b", n, blocks)
		}
		slices.SortFunc(least[blocks], func(a, b api.Net) int { return int(a.Addr) - int(b.Addr) })
	}
	return least
}

// worlds are at both ends and in the middle of the addresses.
func worlds() []world {
	return []world{
		newWorld(0, 0), newWorld(0, 29), newWorld(0xfffffff8, 29), newWorld(0x80000000, 1), newWorld(0x0a000000, 7),
	}
}

// TestCoverOfAllSubsets compares Cover with a search of all lists.
func TestCoverOfAllSubsets(t *testing.T) {
	for _, w := range worlds() {
		least := w.smallest(t)
		for subset := range 1 << len(w.nets) {
			nets, blocks := w.chosen(subset)
			size := bits.OnesCount(uint(blocks)) * w.blockSize()
			wantCover(t, sample.Shuffled(nets, subset), least[blocks], size)
			if t.Failed() {
				return
			}
		}
	}
}

// TestHasOfAllSubsets asks for the ends of each block and the addresses
// beside the world.
func TestHasOfAllSubsets(t *testing.T) {
	for _, w := range worlds() {
		for subset := range 1 << len(w.nets) {
			nets, blocks := w.chosen(subset)
			for i := -1; i <= 8; i++ {
				first := int(w.addr) + i*w.blockSize()
				want := i >= 0 && i < 8 && blocks>>i&1 == 1
				for _, a := range []int{first, first + w.blockSize() - 1} {
					if a >= 0 && a <= math.MaxUint32 && Has(nets, uint32(a)) != want {
						t.Fatalf("Has(%v, %#x) = %v", nets, a, !want)
					}
				}
			}
		}
	}
}

// blocksOf returns the addresses from low to before high as the greatest
// aligned blocks, which are found from left to right.
func blocksOf(low, high int) []api.Net {
	var nets []api.Net
	for low < high {
		length := 0
		for low%(1<<(32-length)) != 0 || low+1<<(32-length) > high {
			length++
		}
		nets = append(nets, api.Net{Addr: uint32(low), Len: length})
		low += 1 << (32 - length)
	}
	return nets
}

// byIntervals returns what Cover and Size must return, found by joining
// intervals of addresses.
func byIntervals(l []api.Net) ([]api.Net, int) {
	type interval struct{ low, high int }
	var all []interval
	for _, n := range l {
		all = append(all, interval{int(n.Addr), int(n.Addr) + 1<<(32-n.Len)})
	}
	slices.SortFunc(all, func(a, b interval) int { return a.low - b.low })
	var nets []api.Net
	size := 0
	for i := 0; i < len(all); {
		low, high := all[i].low, all[i].high
		for ; i < len(all) && all[i].low <= high; i++ {
			high = max(high, all[i].high)
		}
		nets = append(nets, blocksOf(low, high)...)
		size += high - low
	}
	return nets, size
}

// mixedNets returns count networks of lengths from least to 32 in the network
// of length least that begins at addr.
func mixedNets(addr uint32, least, count, seed int) []api.Net {
	var nets []api.Net
	for i := range count {
		length := least + api.Mix(seed, 2*i)%(33-least)
		index := api.Mix(seed, 2*i+1) % (1 << (length - least))
		nets = append(nets, api.Net{Addr: addr + uint32(index<<(32-length)), Len: length})
	}
	return nets
}

func TestCoverOfMixedNets(t *testing.T) {
	for seed := range 3000 {
		count := seed % (api.MaxNets + 1)
		for _, l := range [][]api.Net{
			mixedNets(0, 0, count, seed),
			mixedNets(0, 25, count, seed),
			mixedNets(0xffffff00, 27, count, seed),
			append(mixedNets(0x0a000000, 26, count/2, seed), mixedNets(0x0a000040, 27, count/2, seed+1)...),
		} {
			want, size := byIntervals(l)
			wantCover(t, l, want, size)
			if t.Failed() {
				return
			}
		}
	}
}

// TestLongestLists: lists of 64 networks, of which all, some or one remain.
func TestLongestLists(t *testing.T) {
	apart := sample.Hosts(0x0a000000, api.MaxNets, 2)
	wantCover(t, apart, apart, 64)
	wantCover(t, sample.Shuffled(apart, 1), apart, 64)

	joined := sample.Hosts(0x0a000000, api.MaxNets, 1)
	wantCover(t, joined, parse(t, "10.0.0.0/26"), 64)
	wantCover(t, sample.Shuffled(joined, 2), parse(t, "10.0.0.0/26"), 64)

	shifted := sample.Hosts(0x0a000001, api.MaxNets, 1)
	want, size := byIntervals(shifted)
	wantCover(t, sample.Shuffled(shifted, 3), want, size)

	same := slices.Repeat(parse(t, "10.0.0.0/8"), api.MaxNets)
	wantCover(t, same, same[:1], 1<<24)

	all := slices.Repeat(parse(t, "0.0.0.0/0"), api.MaxNets)
	wantCover(t, all, all[:1], 1<<32)
}

// TestAllLengths: one network of each length but 0, of which none can be
// joined until the one address that is missing is added.
func TestAllLengths(t *testing.T) {
	var l []api.Net
	for length := range 32 {
		l = append(l, api.Net{Addr: 1 << (31 - length), Len: length + 1})
	}
	ascending := slices.Clone(l)
	slices.Reverse(ascending)
	wantCover(t, l, ascending, 1<<32-1)
	wantCover(t, append(l, api.Net{Len: 32}), []api.Net{{}}, 1<<32)
}

func TestTooMany(t *testing.T) {
	for _, count := range []int{api.MaxNets + 1, api.MaxNets + 2, 128, 1000} {
		wantError(t, sample.Hosts(0, count, 2), api.ErrFull)
		// The length of the list counts, not the length of the result.
		wantError(t, sample.Hosts(0, count, 1), api.ErrFull)
		wantError(t, slices.Repeat(parse(t, "10.0.0.0/8"), count), api.ErrFull)
		wantError(t, make([]api.Net, count), api.ErrFull)
	}
}

// TestInvalid puts an invalid network at each place of lists of valid ones.
func TestInvalid(t *testing.T) {
	for _, c := range sample.NotNets() {
		wantError(t, []api.Net{c.Net}, c.Want)
		wantError(t, []api.Net{c.Net, c.Net}, c.Want)
		for _, valid := range [][]api.Net{
			parse(t, "0.0.0.0/0", "10.0.0.0/8", "10.0.0.0/8"),
			sample.Hosts(0x0a000000, api.MaxNets-1, 1),
		} {
			for i := range len(valid) + 1 {
				wantError(t, slices.Insert(slices.Clone(valid), i, c.Net), c.Want)
			}
		}
	}
}

// TestFirstError: the first invalid network decides, in whatever order they
// would be sorted.
func TestFirstError(t *testing.T) {
	valid := parse(t, "10.0.0.0/8")[0]
	for _, a := range sample.NotNets() {
		for _, b := range sample.NotNets() {
			wantError(t, []api.Net{a.Net, b.Net}, a.Want)
			wantError(t, []api.Net{valid, a.Net, valid, b.Net, valid}, a.Want)
		}
	}
}

// TestInvalidBeforeFull: an invalid network precedes ErrFull, also if it is
// behind the first 64.
func TestInvalidBeforeFull(t *testing.T) {
	for _, c := range sample.NotNets() {
		for _, i := range []int{0, 1, 63, 64, 65, 99, 100} {
			wantError(t, slices.Insert(sample.Hosts(0, 100, 2), i, c.Net), c.Want)
		}
		wantError(t, append(sample.Hosts(0, api.MaxNets, 1), c.Net), c.Want)
		wantError(t, slices.Repeat([]api.Net{c.Net}, 100), c.Want)
	}
}

func TestHas(t *testing.T) {
	l := parse(t, "192.168.0.0/16", "10.0.0.0/8", "10.1.0.0/16", "0.0.0.7/32")
	for _, a := range []uint32{7, 0x0a000000, 0x0a010000, 0x0affffff, 0xc0a80000, 0xc0a8ffff} {
		if !Has(l, a) {
			t.Errorf("Has(%v, %#x) = false", l, a)
		}
	}
	for _, a := range []uint32{0, 6, 8, 0x09ffffff, 0x0b000000, 0xc0a7ffff, 0xc0a90000, 0xffffffff} {
		if Has(l, a) {
			t.Errorf("Has(%v, %#x) = true", l, a)
		}
	}
}

// TestHasOfInvalid: what pref.Check rejects contains nothing, and does not
// hide the valid networks before and behind it.
func TestHasOfInvalid(t *testing.T) {
	valid := parse(t, "10.0.0.0/8")[0]
	for _, c := range sample.NotNets() {
		for _, a := range []uint32{c.Net.Addr, 0, 1, 0x80000000, 0xffffffff} {
			if Has([]api.Net{c.Net}, a) {
				t.Errorf("Has([%v], %#x) = true", c.Net, a)
			}
			if Has([]api.Net{c.Net, valid}, a) != (a>>24 == 10) || Has([]api.Net{valid, c.Net}, a) != (a>>24 == 10) {
				t.Errorf("Has([%v %v], %#x) is wrong", c.Net, valid, a)
			}
		}
		if !Has([]api.Net{c.Net, valid}, 0x0a000001) || !Has([]api.Net{valid, c.Net}, 0x0a000001) {
			t.Errorf("%v hides %v", c.Net, valid)
		}
	}
}

// TestHasOfLongList: Has has no errors, and so no limit.
func TestHasOfLongList(t *testing.T) {
	l := sample.Hosts(0, 1000, 2)
	for a := range uint32(2002) {
		if want := a < 2000 && a%2 == 0; Has(l, a) != want {
			t.Errorf("Has(%d hosts, %d) = %v", len(l), a, !want)
		}
	}
}

// TestArgument: the list and the memory behind it stay as they were, and the
// result shares no memory with them.
func TestArgument(t *testing.T) {
	for _, texts := range [][]string{
		{"10.0.0.0/8"},
		{"10.0.0.0/8", "11.0.0.0/8"},
		{"10.128.0.0/9", "10.0.0.0/9", "10.0.0.5/32", "9.0.0.0/8"},
		{"1.0.0.0/8", "3.0.0.0/8", "5.0.0.0/8", "7.0.0.0/8"},
	} {
		nets := parse(t, append(texts, "8.8.8.8/32", "0.0.0.0/0")...)
		before := slices.Clone(nets)
		l := nets[:len(texts)]
		got, err := Cover(l)
		if err != nil {
			t.Fatal(err)
		}
		Size(l)
		Has(l, 0x0a000000)
		for i := range got {
			got[i] = api.Net{Addr: 1, Len: -1}
		}
		_ = append(got, api.Net{Addr: 1, Len: -1})
		if !slices.Equal(nets, before) {
			t.Errorf("%v became %v", before, nets)
		}
		again, _ := Cover(l)
		other, _ := Cover(l)
		again[0] = api.Net{}
		if other[0] == again[0] {
			t.Errorf("two results for %v share memory", l)
		}
	}
}
