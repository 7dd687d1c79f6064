package ways

import (
	"math"
	"slices"
	"testing"

	"waywarden/api"
	"waywarden/plain"
	"waywarden/sample"
	"waywarden/spf"
)

// visit calls f for this path, whose Costs add up to sum, and for each longer
// one that begins with it, comes to no node twice and has a sum of at most 15.
// Each link has to be told in both directions.
func visit(both []api.Link, path []int, sum int, f func(path []int, sum int)) {
	f(path, sum)
	at := path[len(path)-1]
	for _, link := range both {
		if link.A == at && !slices.Contains(path, link.B) && sum+link.Cost <= 15 {
			visit(both, append(slices.Clone(path), link.B), sum+link.Cost, f)
		}
	}
}

// shortest returns, for each node, the shortest paths to it from node a in
// lexicographic order. A path that comes to a node twice is not among them:
// without what is between, it is shorter.
func shortest(n int, l []api.Link, a int) [][][]int {
	least, paths := slices.Repeat([]int{16}, n), make([][][]int, n)
	visit(slices.Concat(l, sample.Flipped(l)), []int{a}, 0, func(path []int, sum int) {
		b := path[len(path)-1]
		if sum < least[b] {
			least[b], paths[b] = sum, nil
		}
		if sum == least[b] {
			paths[b] = append(paths[b], path)
		}
	})
	for _, list := range paths {
		slices.SortFunc(list, slices.Compare[[]int])
	}
	return paths
}

// added returns the sum of the Costs of the links of w, link by link, and
// whether w is a path.
func added(n int, l []api.Link, w []int) (int, bool) {
	if len(w) == 0 || w[0] < 0 || w[0] >= n {
		return 0, false
	}
	sum := 0
	for i := 1; i < len(w); i++ {
		at := slices.IndexFunc(l, func(link api.Link) bool {
			return link.A == w[i-1] && link.B == w[i] || link.A == w[i] && link.B == w[i-1]
		})
		if at < 0 {
			return 0, false
		}
		sum += l[at].Cost
	}
	return sum, true
}

// lists calls f for each list of at most most numbers, each of them from -1
// to n.
func lists(n, most int, f func(w []int)) {
	var extend func(w []int)
	extend = func(w []int) {
		f(w)
		if len(w) == most {
			return
		}
		for i := -1; i <= n; i++ {
			extend(append(slices.Clone(w), i))
		}
	}
	extend(nil)
}

func wantLength(t *testing.T, n int, l []api.Link, w []int, want int) {
	t.Helper()
	if got, err := Length(n, l, w); err != nil || got != want {
		t.Errorf("Length(%d, %v, %v) = %d, %v, want %d", n, l, w[:min(len(w), 20)], got, err, want)
	}
}

func wantLengthError(t *testing.T, n int, l []api.Link, w []int, want api.Errno) {
	t.Helper()
	if got, err := Length(n, l, w); got != 0 || plain.Told(err) != want {
		t.Errorf("Length(%d, %v.., %v) = %d, %v, want 0, %v", n, l[:min(len(l), 3)], w[:min(len(w), 20)], got, err, want)
	}
}

// wantPaths checks Count and First with all shortest paths from a to b in
// lexicographic order, or none.
func wantPaths(t *testing.T, n int, l []api.Link, a, b int, paths ...[]int) {
	t.Helper()
	if got, err := Count(n, l, a, b); err != nil || got != len(paths) {
		t.Errorf("Count(%d, %v, %d, %d) = %d, %v, want %d", n, l, a, b, got, err, len(paths))
	}
	if len(paths) == 0 {
		wantFirstError(t, n, l, a, b, api.ErrNone)
		return
	}
	if got, err := First(n, l, a, b); err != nil || !slices.Equal(got, paths[0]) {
		t.Errorf("First(%d, %v, %d, %d) = %v, %v, want %v", n, l, a, b, got, err, paths[0])
	}
}

func wantFirstError(t *testing.T, n int, l []api.Link, a, b int, want api.Errno) {
	t.Helper()
	if got, err := First(n, l, a, b); len(got) != 0 || plain.Told(err) != want {
		t.Errorf("First(%d, %v.., %d, %d) = %v, %v, want none, %v", n, l[:min(len(l), 3)], a, b, got, err, want)
	}
}

// wantError checks both Count and First, which share these errors.
func wantError(t *testing.T, n int, l []api.Link, a, b int, want api.Errno) {
	t.Helper()
	if got, err := Count(n, l, a, b); got != 0 || plain.Told(err) != want {
		t.Errorf("Count(%d, %v.., %d, %d) = %d, %v, want 0, %v", n, l[:min(len(l), 3)], a, b, got, err, want)
	}
	wantFirstError(t, n, l, a, b, want)
}

// wantAll checks Count and First for every two nodes.
func wantAll(t *testing.T, n int, l []api.Link) {
	t.Helper()
	for a := range n {
		for b, paths := range shortest(n, l, a) {
			wantPaths(t, n, l, a, b, paths...)
		}
	}
}

func TestExample(t *testing.T) {
	l := sample.Links(0, 1, 3, 1, 2, 4, 0, 2, 7)
	wantPaths(t, 3, l, 0, 2, []int{0, 1, 2}, []int{0, 2})
	wantPaths(t, 3, l, 2, 0, []int{2, 0}, []int{2, 1, 0})
	wantPaths(t, 3, l, 1, 2, []int{1, 2})
	wantLength(t, 3, l, []int{0, 1, 2}, 7)
	wantLength(t, 3, l, []int{0, 2}, 7)
	wantLength(t, 3, l, []int{2, 1}, 4)
}

// TestNodeItself: the path from a node to itself consists of this node alone,
// whichever links there are.
func TestNodeItself(t *testing.T) {
	for n := 1; n <= 8; n++ {
		for _, l := range [][]api.Link{nil, {}, sample.Chain(n, 1), sample.Full(n, 1), sample.Made(n, 1, 15)} {
			for a := range n {
				wantPaths(t, n, l, a, a, []int{a})
				wantLength(t, n, l, []int{a}, 0)
			}
		}
	}
}

// TestNoLinks: there is no path to another node.
func TestNoLinks(t *testing.T) {
	for n := 1; n <= 8; n++ {
		for a := range n {
			for b := range n {
				if a != b {
					wantPaths(t, n, nil, a, b)
					wantPaths(t, n, []api.Link{}, a, b)
				}
				wantLengthError(t, n, nil, []int{a, b}, api.ErrForm)
				wantLengthError(t, n, []api.Link{}, []int{a, b}, api.ErrForm)
			}
		}
	}
}

// TestNoPaths: lists with one fault, at their beginning, in their middle and
// at their end.
func TestNoPaths(t *testing.T) {
	for n := 1; n <= 8; n++ {
		for _, l := range [][]api.Link{nil, sample.Chain(n, 15), sample.Full(n, 1)} {
			wantLengthError(t, n, l, nil, api.ErrForm)
			wantLengthError(t, n, l, []int{}, api.ErrForm)
			for _, x := range sample.NotNodes(n) {
				wantLengthError(t, n, l, []int{x}, api.ErrForm)
				wantLengthError(t, n, l, []int{x, 0}, api.ErrForm)
				wantLengthError(t, n, l, []int{0, x}, api.ErrForm)
				wantLengthError(t, n, l, []int{x, x}, api.ErrForm)
			}
			for a := range n {
				wantLengthError(t, n, l, []int{a, a}, api.ErrForm)
			}
		}
	}
	l := sample.Links(0, 1, 3, 2, 1, 4, 3, 2, 5)
	good := []int{0, 1, 2, 3, 2, 1}
	wantLength(t, 4, l, good, 21)
	for at, node := range good {
		wantLengthError(t, 4, l, slices.Insert(slices.Clone(good), at, node), api.ErrForm)
		for _, x := range append(sample.NotNodes(4), (node+2)%4) {
			bad := slices.Clone(good)
			bad[at] = x
			if _, ok := added(4, l, bad); !ok {
				wantLengthError(t, 4, l, bad, api.ErrForm)
			}
		}
	}
	wantLengthError(t, 4, l, []int{0, 2, 3}, api.ErrForm)
	wantLengthError(t, 4, l, []int{3, 2, 0}, api.ErrForm)
	wantLengthError(t, 4, l, []int{0, 1, 3, 2}, api.ErrForm)
}

// TestLengthOfLists: all short lists of numbers from -1 to n.
func TestLengthOfLists(t *testing.T) {
	for n := 1; n <= 8; n++ {
		for _, l := range [][]api.Link{nil, sample.Chain(n, 7), sample.Full(n, 15), sample.Made(n, 2, 15), sample.Made(n, 4, 15)} {
			lists(n, 2+8/n, func(w []int) {
				if sum, ok := added(n, l, w); ok {
					wantLength(t, n, l, w, sum)
				} else {
					wantLengthError(t, n, l, w, api.ErrForm)
				}
			})
		}
	}
}

// TestLengthOfDetours: a path may pass over nodes and links more than once,
// and each time counts.
func TestLengthOfDetours(t *testing.T) {
	l := sample.Links(0, 1, 3, 1, 2, 4, 0, 2, 7)
	wantLength(t, 3, l, []int{0, 1, 0}, 6)
	wantLength(t, 3, l, []int{0, 1, 0, 1, 0, 1}, 15)
	wantLength(t, 3, l, []int{0, 1, 0, 2}, 13)
	wantLength(t, 3, l, []int{0, 1, 2, 0}, 14)
	wantLength(t, 3, l, []int{0, 1, 2, 0, 1, 2, 0, 2, 1}, 39)
}

// TestLengthHasNoBound: Lengths of 15, 16 and far beyond.
func TestLengthHasNoBound(t *testing.T) {
	for p := 1; p <= 15; p++ {
		for q := 1; q <= 15; q++ {
			l := sample.Links(0, 1, p, 2, 1, q)
			wantLength(t, 3, l, []int{0, 1, 2}, p+q)
			wantLength(t, 3, l, []int{2, 1, 0, 1}, q+2*p)
		}
	}
	wantLength(t, 8, sample.Chain(8, 15), []int{0, 1, 2, 3, 4, 5, 6, 7}, 105)
	back := slices.Repeat([]int{1, 0}, 500000)
	wantLength(t, 2, sample.Links(0, 1, 1), back, 999999)
	wantLength(t, 2, sample.Links(1, 0, 15), back, 15*999999)
	wantLengthError(t, 2, sample.Links(1, 0, 15), append(back, 0), api.ErrForm)
	wantLengthError(t, 2, sample.Links(1, 0, 15), append(back, 2), api.ErrForm)
}

// TestDistanceInfinity: a path with a Length of 15 may be shortest, one with
// a Length of 16 or more is not, though there is no shorter one.
func TestDistanceInfinity(t *testing.T) {
	for p := 1; p <= 15; p++ {
		wantPaths(t, 2, sample.Links(0, 1, p), 0, 1, []int{0, 1})
		for q := 1; q <= 15; q++ {
			l := sample.Links(0, 1, p, 1, 2, q)
			if p+q <= 15 {
				wantPaths(t, 3, l, 0, 2, []int{0, 1, 2})
				wantPaths(t, 3, l, 2, 0, []int{2, 1, 0})
			} else {
				wantPaths(t, 3, l, 0, 2)
				wantPaths(t, 3, l, 2, 0)
			}
		}
	}
	wantPaths(t, 4, sample.Chain(4, 5), 0, 3, []int{0, 1, 2, 3})
	wantPaths(t, 4, sample.Links(0, 1, 5, 1, 2, 5, 2, 3, 6), 0, 3)
	wantPaths(t, 5, sample.Chain(5, 8), 0, 4)
	wantPaths(t, 4, sample.Links(0, 1, 8, 1, 3, 8, 0, 2, 8, 2, 3, 8), 0, 3)
	wantPaths(t, 4, sample.Links(0, 1, 8, 1, 3, 8, 0, 2, 8, 2, 3, 7), 0, 3, []int{0, 2, 3})
	wantPaths(t, 4, sample.Links(0, 1, 8, 1, 3, 7, 0, 2, 8, 2, 3, 7), 0, 3, []int{0, 1, 3}, []int{0, 2, 3})
}

// TestSeveralParts: there is no path from one part to another.
func TestSeveralParts(t *testing.T) {
	l := sample.Links(0, 1, 1, 1, 2, 1, 4, 3, 2, 5, 4, 3, 6, 5, 4)
	part := []int{0, 0, 0, 1, 1, 1, 1, 2}
	for a := range part {
		for b := range part {
			if part[a] != part[b] {
				wantPaths(t, 8, l, a, b)
			}
		}
	}
	wantPaths(t, 8, l, 2, 0, []int{2, 1, 0})
	wantPaths(t, 8, l, 3, 6, []int{3, 4, 5, 6})
	wantPaths(t, 8, l, 7, 7, []int{7})
	wantLengthError(t, 8, l, []int{0, 1, 2, 3, 4}, api.ErrForm)
}

// TestSameNumberOfNodes: all shortest paths have as many nodes.
func TestSameNumberOfNodes(t *testing.T) {
	for n := 3; n <= 8; n++ {
		var l []api.Link
		var there, back [][]int
		for i := 1; i < n-1; i++ {
			l = append(l, api.Link{A: i, B: 0, Cost: i}, api.Link{A: n - 1, B: i, Cost: 9 - i})
			there, back = append(there, []int{0, i, n - 1}), append(back, []int{n - 1, i, 0})
		}
		wantPaths(t, n, l, 0, n-1, there...)
		wantPaths(t, n, sample.Flipped(l), n-1, 0, back...)
	}
	l := sample.Links(7, 6, 1, 7, 5, 1, 7, 4, 1, 1, 0, 1, 2, 0, 1, 3, 0, 1)
	for i := 1; i <= 3; i++ {
		l = append(l, sample.Links(4, i, 2, i, 5, 2, 6, i, 2)...)
	}
	wantPaths(t, 8, l, 0, 7,
		[]int{0, 1, 4, 7}, []int{0, 1, 5, 7}, []int{0, 1, 6, 7},
		[]int{0, 2, 4, 7}, []int{0, 2, 5, 7}, []int{0, 2, 6, 7},
		[]int{0, 3, 4, 7}, []int{0, 3, 5, 7}, []int{0, 3, 6, 7})
}

// TestDifferentNumbersOfNodes: where each link costs as much as it spans, each
// set of nodes between is a shortest path; so there are up to 64, of two to
// eight nodes. The first one has the most nodes, or the fewest.
func TestDifferentNumbersOfNodes(t *testing.T) {
	for n := 2; n <= 8; n++ {
		var l, turned []api.Link
		var all []int
		for b := range n {
			for a := range b {
				l = append(l, api.Link{A: a, B: b, Cost: b - a})
				// Node n-1 stands before the others here.
				turned = append(turned, api.Link{A: (a + n - 1) % n, B: (b + n - 1) % n, Cost: b - a})
			}
			all = append(all, b)
		}
		if got, err := Count(n, l, 0, n-1); err != nil || got != 1<<(n-2) {
			t.Errorf("Count(%d, %v, 0, %d) = %d, %v, want %d", n, l, n-1, got, err, 1<<(n-2))
		}
		if got, err := First(n, l, 0, n-1); err != nil || !slices.Equal(got, all) {
			t.Errorf("First(%d, %v, 0, %d) = %v, %v, want %v", n, l, n-1, got, err, all)
		}
		if got, err := First(n, l, n-1, 0); err != nil || !slices.Equal(got, []int{n - 1, 0}) {
			t.Errorf("First(%d, %v, %d, 0) = %v, %v, want %v", n, l, n-1, got, err, []int{n - 1, 0})
		}
		wantAll(t, n, l)
		wantAll(t, n, turned)
	}
}

// TestFirstIsLexicographic: the first nodes decide, neither the number of
// nodes nor the nodes at the other end.
func TestFirstIsLexicographic(t *testing.T) {
	l := sample.Links(0, 1, 1, 1, 6, 1, 6, 7, 1, 0, 2, 1, 2, 3, 1, 3, 7, 1)
	wantPaths(t, 8, l, 0, 7, []int{0, 1, 6, 7}, []int{0, 2, 3, 7})
	wantPaths(t, 8, l, 7, 0, []int{7, 3, 2, 0}, []int{7, 6, 1, 0})
	l = sample.Links(0, 5, 1, 5, 1, 1, 1, 2, 1, 0, 3, 1, 3, 2, 2)
	wantPaths(t, 6, l, 0, 2, []int{0, 3, 2}, []int{0, 5, 1, 2})
	wantPaths(t, 6, l, 2, 0, []int{2, 1, 5, 0}, []int{2, 3, 0})
	l = sample.Links(0, 7, 3, 0, 1, 1, 1, 7, 2, 1, 6, 1, 6, 7, 1)
	wantPaths(t, 8, l, 0, 7, []int{0, 1, 6, 7}, []int{0, 1, 7}, []int{0, 7})
	wantPaths(t, 8, l, 7, 0, []int{7, 0}, []int{7, 1, 0}, []int{7, 6, 1, 0})
	// A smaller neighbor that is not on a shortest path is passed by.
	wantPaths(t, 4, sample.Links(3, 0, 1, 0, 1, 5, 3, 2, 2, 2, 1, 2), 3, 1, []int{3, 2, 1})
	wantPaths(t, 4, sample.Links(3, 0, 1, 3, 1, 2, 1, 2, 1), 3, 2, []int{3, 1, 2})
}

// TestEveryOrder: neither the order of the links nor that of their ends
// changes anything.
func TestEveryOrder(t *testing.T) {
	for _, l := range sample.Fours() {
		for a := range 4 {
			paths := shortest(4, l, a)
			sample.Orders(l, func(l []api.Link) {
				for b := range 4 {
					wantPaths(t, 4, l, a, b, paths[b]...)
					for _, path := range paths[b] {
						sum, _ := added(4, l, path)
						wantLength(t, 4, l, path, sum)
					}
				}
			})
		}
	}
}

// TestGraphs compares with all shortest paths, listed one by one, whose
// Length is the distance.
func TestGraphs(t *testing.T) {
	sample.Graphs(func(n int, l []api.Link) {
		for a := range n {
			far, _ := spf.Far(n, l, a)
			for b, paths := range shortest(n, l, a) {
				wantPaths(t, n, l, a, b, paths...)
				wantPaths(t, n, sample.Flipped(l), a, b, paths...)
				for _, path := range paths {
					wantLength(t, n, l, path, far[b])
				}
			}
		}
	})
}

// TestAllSmallGraphs: all graphs with 3 nodes and all their costs, which are
// 16 where there is no link.
func TestAllSmallGraphs(t *testing.T) {
	for code := range 16 * 16 * 16 {
		l := sample.Links(0, 1, 1+code%16, 1, 2, 1+code/16%16, 2, 0, 1+code/256)
		wantAll(t, 3, slices.DeleteFunc(l, func(link api.Link) bool { return link.Cost == 16 }))
	}
}

// TestThereAndBack: there are as many shortest paths from b to a as from a to
// b, and each First is the other one where there is only one.
func TestThereAndBack(t *testing.T) {
	sample.Graphs(func(n int, l []api.Link) {
		for a := range n {
			for b := range a {
				there, _ := Count(n, l, a, b)
				back, _ := Count(n, l, b, a)
				path, _ := First(n, l, a, b)
				other, _ := First(n, l, b, a)
				slices.Reverse(other)
				if there != back || there <= 1 && !slices.Equal(path, other) {
					t.Errorf("(%d, %v): %d paths from %d to %d and %d back, first %v and reversed %v", n, l, there, a, b, back, path, other)
				}
			}
		}
	})
}

// TestNumberOfNodes: of 0 nodes, of more than 8, and of numbers that are
// valid in their low bits, there is no graph.
func TestNumberOfNodes(t *testing.T) {
	for _, n := range sample.NotSizes() {
		for _, l := range [][]api.Link{nil, sample.Links(0, 1, 4), sample.Links(0, 0, 4), sample.Links(0, 1, 4, 1, 0, 4)} {
			for _, a := range []int{-1, 0, 1, 7, 8, n - 1, n} {
				for _, b := range []int{-1, 0, 1, 7, 8, n - 1, n} {
					wantError(t, n, l, a, b, api.ErrRange)
				}
			}
			for _, w := range [][]int{nil, {0}, {0, 1}, {0, 0}, {-1}, {n}} {
				wantLengthError(t, n, l, w, api.ErrRange)
			}
		}
	}
	wantPaths(t, 1, nil, 0, 0, []int{0})
	wantPaths(t, 8, sample.Links(7, 0, 1), 0, 7, []int{0, 7})
}

// TestNodes: the first and the last node are nodes, the numbers beside them
// are none, and that they are none is told before that there is no path.
func TestNodes(t *testing.T) {
	for n := 1; n <= 8; n++ {
		for _, l := range [][]api.Link{nil, sample.Chain(n, 1), sample.Full(n, 3), sample.Made(n, 1, 4)} {
			for _, a := range []int{0, n - 1} {
				for _, b := range []int{0, n - 1} {
					wantPaths(t, n, l, a, b, shortest(n, l, a)[b]...)
				}
			}
			for _, x := range sample.NotNodes(n) {
				for i := range n {
					wantError(t, n, l, x, i, api.ErrRange)
					wantError(t, n, l, i, x, api.ErrRange)
				}
				for _, y := range sample.NotNodes(n) {
					wantError(t, n, l, x, y, api.ErrRange)
				}
			}
		}
	}
}

// TestErrorOfLinks: it is that of the first link at fault, and comes first,
// whatever the nodes and the path are.
func TestErrorOfLinks(t *testing.T) {
	for _, c := range sample.Faults() {
		for _, a := range []int{0, 2, -1, 3, math.MinInt} {
			for _, b := range []int{0, 2, -1, 3, math.MaxInt} {
				wantError(t, 3, c.Links, a, b, c.Want)
			}
		}
		for _, w := range [][]int{nil, {0}, {0, 1}, {0, 0}, {3}, {-1, 0}, {0, 2, 5}} {
			wantLengthError(t, 3, c.Links, w, c.Want)
		}
	}
}

// TestArgumentsStayAsTheyWere: also the memory behind their length, and also
// where there is an error.
func TestArgumentsStayAsTheyWere(t *testing.T) {
	unchanged := func(n int, l []api.Link, a, b int, w []int) {
		memory, list := slices.Concat(l, sample.Links(7, 7, 77, 8, 8, 88)), append(slices.Clone(w), 70, 71)
		linksBefore, listBefore := slices.Clone(memory), slices.Clone(list)
		_, _ = Length(n, memory[:len(l)], list[:len(w)])
		_, _ = Count(n, memory[:len(l)], a, b)
		_, _ = First(n, memory[:len(l)], a, b)
		if !slices.Equal(memory, linksBefore) || !slices.Equal(list, listBefore) {
			t.Errorf("%v and %v became %v and %v", linksBefore, listBefore, memory, list)
		}
	}
	sample.Graphs(func(n int, l []api.Link) {
		for a := range n {
			for b, paths := range shortest(n, l, a) {
				for _, path := range paths {
					unchanged(n, l, a, b, path)
				}
				unchanged(n, l, a, b, []int{a, b, n, a})
			}
			unchanged(n, l, a, n, nil)
		}
		unchanged(n, append(l, sample.Links(0, 0, 1)...), 0, 0, []int{0})
	})
	unchanged(3, sample.Links(0, 1, 4, 1, 0, 4), 0, 1, []int{0, 1})
	unchanged(9, sample.Links(0, 1, 4), 0, 1, []int{0, 1})
}

// TestResultsAreOwn: a change of a path, also behind its length, changes no
// other result, nor the links.
func TestResultsAreOwn(t *testing.T) {
	sample.Graphs(func(n int, l []api.Link) {
		before := slices.Clone(l)
		for a := range n {
			for b, paths := range shortest(n, l, a) {
				if len(paths) == 0 {
					continue
				}
				path, _ := First(n, l, a, b)
				other, _ := First(n, l, a, b)
				sample.Spoil(path)
				if !slices.Equal(other, paths[0]) || !slices.Equal(l, before) {
					t.Errorf("a change of First(%d, %v, %d, %d) led to %v and %v", n, before, a, b, other, l)
				}
				wantPaths(t, n, l, a, b, paths...)
			}
		}
	})
}

// TestArgumentsAreNotKept: a change of the links afterwards changes no result.
func TestArgumentsAreNotKept(t *testing.T) {
	for n := 2; n <= 8; n++ {
		l := sample.Full(n, 4)
		path, _ := First(n, l, 0, n-1)
		clear(l)
		if want := []int{0, n - 1}; !slices.Equal(path, want) {
			t.Errorf("the result became %v, want %v", path, want)
		}
		wantPaths(t, n, sample.Full(n, 4), 0, n-1, []int{0, n - 1})
		w := []int{0, n - 1, 0}
		wantLength(t, n, sample.Full(n, 4), w, 8)
		clear(w)
		wantLength(t, n, sample.Full(n, 4), []int{0, n - 1, 0}, 8)
		wantLengthError(t, n, sample.Full(n, 4), w, api.ErrForm)
	}
}
