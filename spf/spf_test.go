package spf

import (
	"container/heap"
	"slices"
	"testing"

	"waywarden/api"
	"waywarden/bell"
	"waywarden/graph"
	"waywarden/mat"
	"waywarden/plain"
	"waywarden/sample"
)

// sums returns, for each sum from 0 to 15 and each node, whether there is a
// path from node from to it with this sum of costs, however often it passes
// over a node: each path is one to another node, extended by one link.
func sums(n int, l []api.Link, from int) [16][]bool {
	var paths [16][]bool
	for sum := range paths {
		paths[sum] = make([]bool, n)
		paths[sum][from] = sum == 0
		for _, link := range l {
			if before := sum - link.Cost; before >= 0 {
				paths[sum][link.A] = paths[sum][link.A] || paths[before][link.B]
				paths[sum][link.B] = paths[sum][link.B] || paths[before][link.A]
			}
		}
	}
	return paths
}

// shortest returns what Far and Ups have to return, read off all paths: the
// smallest sums, and the last nodes but one of the paths that have them.
func shortest(n int, l []api.Link, from int) ([]int, [][]int) {
	paths := sums(n, l, from)
	far, ups := slices.Repeat([]int{16}, n), make([][]int, n)
	for node := range n {
		far[node] = slices.IndexFunc(paths[:], func(at []bool) bool { return at[node] })
		if far[node] < 0 {
			far[node] = 16
			continue
		}
		for _, link := range slices.Concat(l, sample.Flipped(l)) {
			if before := far[node] - link.Cost; link.B == node && before >= 0 && paths[before][link.A] {
				ups[node] = append(ups[node], link.A)
			}
		}
		slices.Sort(ups[node])
	}
	return far, ups
}

// same reports whether two lists of lists are equal; an empty list is nil.
func same(a, b [][]int) bool {
	return slices.EqualFunc(a, b, func(p, q []int) bool { return slices.Equal(p, q) })
}

// copied returns a list of lists that shares no memory with this one.
func copied(lists [][]int) [][]int {
	var other [][]int
	for _, list := range lists {
		other = append(other, slices.Clone(list))
	}
	return other
}

func want(t *testing.T, n int, l []api.Link, from int, far []int, ups [][]int) {
	t.Helper()
	if got, err := Far(n, l, from); err != nil || !slices.Equal(got, far) {
		t.Errorf("Far(%d, %v, %d) = %v, %v, want %v", n, l, from, got, err, far)
	}
	if got, err := Ups(n, l, from); err != nil || !same(got, ups) {
		t.Errorf("Ups(%d, %v, %d) = %v, %v, want %v", n, l, from, got, err, ups)
	}
}

// wantError checks both functions, because they have the same errors.
func wantError(t *testing.T, n int, l []api.Link, from int, want api.Errno) {
	t.Helper()
	some := l[:min(len(l), 3)]
	if got, err := Far(n, l, from); len(got) != 0 || plain.Told(err) != want {
		t.Errorf("Far(%d, %v.., %d) = %v, %v, want none, %v", n, some, from, got, err, want)
	}
	if got, err := Ups(n, l, from); len(got) != 0 || plain.Told(err) != want {
		t.Errorf("Ups(%d, %v.., %d) = %v, %v, want none, %v", n, some, from, got, err, want)
	}
}

func TestExample(t *testing.T) {
	l := sample.Links(0, 1, 3, 1, 2, 4, 0, 2, 7)
	want(t, 3, l, 0, []int{0, 3, 7}, [][]int{{}, {0}, {0, 1}})
	want(t, 3, l, 1, []int{3, 0, 4}, [][]int{{1}, {}, {1}})
	want(t, 3, l, 2, []int{7, 4, 0}, [][]int{{1, 2}, {2}, {}})
}

// TestNoLinks: all other nodes are at distance 16, and no list of Ups has an
// element.
func TestNoLinks(t *testing.T) {
	for n := 1; n <= 8; n++ {
		for from := range n {
			far := slices.Repeat([]int{16}, n)
			far[from] = 0
			want(t, n, nil, from, far, make([][]int, n))
			want(t, n, []api.Link{}, from, far, make([][]int, n))
		}
	}
}

// TestOneLink: of all costs, from each end and from beside it.
func TestOneLink(t *testing.T) {
	for cost := 1; cost <= 15; cost++ {
		for _, l := range [][]api.Link{sample.Links(0, 2, cost), sample.Links(2, 0, cost)} {
			want(t, 3, l, 0, []int{0, 16, cost}, [][]int{{}, {}, {0}})
			want(t, 3, l, 2, []int{cost, 16, 0}, [][]int{{2}, {}, {}})
			want(t, 3, l, 1, []int{16, 0, 16}, [][]int{{}, {}, {}})
		}
	}
}

// TestSumsAboutInfinity: nodes with sums of 16 and more are at distance 16,
// and no neighbor is told for them, also where it is at distance 16 itself.
func TestSumsAboutInfinity(t *testing.T) {
	for p := 1; p <= 15; p++ {
		for q := 1; q <= 15; q++ {
			l := sample.Links(0, 1, p, 1, 2, q)
			if p+q <= 15 {
				want(t, 3, l, 0, []int{0, p, p + q}, [][]int{{}, {0}, {1}})
			} else {
				want(t, 3, l, 0, []int{0, p, 16}, [][]int{{}, {0}, {}})
			}
		}
	}
	want(t, 4, sample.Chain(4, 5), 0, []int{0, 5, 10, 15}, [][]int{{}, {0}, {1}, {2}})
	want(t, 4, sample.Links(0, 1, 5, 1, 2, 5, 2, 3, 6), 0, []int{0, 5, 10, 16}, [][]int{{}, {0}, {1}, {}})
	want(t, 5, sample.Chain(5, 8), 2, []int{16, 8, 0, 8, 16}, [][]int{{}, {2}, {}, {2}, {}})
	want(t, 5, sample.Chain(5, 8), 0, []int{0, 8, 16, 16, 16}, [][]int{{}, {0}, {}, {}, {}})
	want(t, 4, sample.Chain(4, 15), 3, []int{16, 16, 15, 0}, [][]int{{}, {}, {3}, {}})
	want(t, 3, sample.Links(0, 1, 1, 1, 2, 15), 0, []int{0, 1, 16}, [][]int{{}, {0}, {}})
}

// TestTwoSumsAboutInfinity: a node that is reached by two paths, of which
// none, one or both have a sum of at most 15.
func TestTwoSumsAboutInfinity(t *testing.T) {
	for p := 1; p <= 15; p++ {
		for q := 1; q <= 15; q++ {
			var up []int
			far := min(8+p, 8+q, 16)
			if far < 16 && p <= q {
				up = append(up, 1)
			}
			if far < 16 && q <= p {
				up = append(up, 2)
			}
			l := sample.Links(3, 2, q, 1, 0, 8, 0, 2, 8, 1, 3, p)
			want(t, 4, l, 0, []int{0, 8, 8, far}, [][]int{{}, {0}, {0}, up})
		}
	}
}

// TestSeveralParts: nodes of other parts are at distance 16.
func TestSeveralParts(t *testing.T) {
	l := sample.Links(0, 1, 1, 1, 2, 1, 4, 3, 2, 5, 4, 3, 6, 5, 4)
	want(t, 8, l, 0, []int{0, 1, 2, 16, 16, 16, 16, 16}, [][]int{{}, {0}, {1}, {}, {}, {}, {}, {}})
	want(t, 8, l, 1, []int{1, 0, 1, 16, 16, 16, 16, 16}, [][]int{{1}, {}, {1}, {}, {}, {}, {}, {}})
	want(t, 8, l, 5, []int{16, 16, 16, 5, 3, 0, 4, 16}, [][]int{{}, {}, {}, {4}, {5}, {}, {5}, {}})
	want(t, 8, l, 7, []int{16, 16, 16, 16, 16, 16, 16, 0}, make([][]int, 8))
}

// TestManyUps: up to six neighbors are on shortest paths, and are told in
// increasing order in whatever order they are in the links and are reached.
func TestManyUps(t *testing.T) {
	for n := 3; n <= 8; n++ {
		last := n - 1
		for turn := range n {
			var l []api.Link
			var middle []int
			far, ups := make([]int, n), make([][]int, n)
			for i := 1; i < last; i++ {
				// The later the node, the nearer or the farther it is.
				cost := 1 + (i+turn)%(n-1)
				l = append(l, api.Link{A: i, B: 0, Cost: cost}, api.Link{A: last, B: i, Cost: 9 - cost})
				middle = append(middle, i)
				far[i], ups[i] = cost, []int{0}
			}
			far[last], ups[last] = 9, middle
			want(t, n, l, 0, far, ups)
			want(t, n, sample.Flipped(l), 0, far, ups)
		}
	}
}

// TestUpsNearAndFar: a neighbor with a smaller number may be farther away, a
// neighbor may be nearer without being on a shortest path, and node from is
// told between the others.
func TestUpsNearAndFar(t *testing.T) {
	l := sample.Links(2, 4, 6, 2, 0, 1, 0, 4, 5, 2, 3, 2, 3, 4, 4, 1, 4, 2, 1, 3, 2, 2, 1, 4)
	want(t, 5, l, 2, []int{1, 4, 0, 2, 6}, [][]int{{2}, {2, 3}, {}, {2}, {0, 1, 2, 3}})
	l = sample.Links(2, 4, 5, 2, 0, 1, 0, 4, 5, 2, 3, 2, 3, 4, 3)
	want(t, 5, l, 2, []int{1, 16, 0, 2, 5}, [][]int{{2}, {}, {}, {2}, {2, 3}})
}

// TestNearestIsPoppedFirst: in whatever order the nodes are pushed. Paths that
// are found in another order lead to the same distances, only later.
func TestNearestIsPoppedFirst(t *testing.T) {
	for turn := range 16 {
		queue := &nearest{}
		for i := range 16 {
			heap.Push(queue, reached{i % 8, (5*i + turn) % 16})
		}
		for sum := range 16 {
			if got := heap.Pop(queue).(reached).sum; got != sum {
				t.Errorf("turn %d: a node with the sum %d is popped, want %d", turn, got, sum)
			}
		}
		if queue.Len() != 0 {
			t.Errorf("turn %d: %d nodes remain", turn, queue.Len())
		}
	}
}

// TestEqualDistances: neighbors that are equally far are not on each other's
// shortest paths.
func TestEqualDistances(t *testing.T) {
	for n := 1; n <= 8; n++ {
		for cost := 1; cost <= 15; cost++ {
			for from := range n {
				far, ups := slices.Repeat([]int{cost}, n), make([][]int, n)
				for i := range n {
					ups[i] = []int{from}
				}
				far[from], ups[from] = 0, nil
				want(t, n, sample.Full(n, cost), from, far, ups)
			}
		}
	}
}

// TestShorterPathsAreFoundLater: a node is reached first by a link that costs
// much, and then by paths that cost less and less.
func TestShorterPathsAreFoundLater(t *testing.T) {
	for n := 2; n <= 8; n++ {
		far, ups := make([]int, n), make([][]int, n)
		l := sample.Chain(n, 1)
		for a := range n {
			for b := a + 2; b < n; b++ {
				l = append(l, api.Link{A: a, B: b, Cost: 2*(b-a) - 1})
			}
			far[a] = a
			if a > 0 {
				ups[a] = []int{a - 1}
			}
		}
		want(t, n, l, 0, far, ups)
		want(t, n, sample.Flipped(l), 0, far, ups)
	}
}

// TestEveryOrder: neither the order of the links nor that of their ends
// changes anything.
func TestEveryOrder(t *testing.T) {
	for _, l := range sample.Fours() {
		for from := range 4 {
			far, ups := shortest(4, l, from)
			sample.Orders(l, func(l []api.Link) { want(t, 4, l, from, far, ups) })
		}
	}
}

// TestGraphs compares with the sums of Costs over all paths.
func TestGraphs(t *testing.T) {
	sample.Graphs(func(n int, l []api.Link) {
		for from := range n {
			far, ups := shortest(n, l, from)
			want(t, n, l, from, far, ups)
			want(t, n, sample.Flipped(l), from, far, ups)
		}
	})
}

// TestAllSmallGraphs: all graphs with up to 3 nodes and all their costs, which
// are 16 where there is no link.
func TestAllSmallGraphs(t *testing.T) {
	for code := range 16 * 16 * 16 {
		l := slices.DeleteFunc(sample.Links(0, 1, 1+code%16, 1, 2, 1+code/16%16, 2, 0, 1+code/256), func(link api.Link) bool {
			return link.Cost == 16
		})
		for from := range 3 {
			far, ups := shortest(3, l, from)
			want(t, 3, l, from, far, ups)
		}
	}
}

// TestUpsAddUp: the promise about Ups, neighbor by neighbor, with the
// distances that Far returns.
func TestUpsAddUp(t *testing.T) {
	sample.Graphs(func(n int, l []api.Link) {
		rows, _ := graph.Costs(n, l)
		for from := range n {
			far, _ := Far(n, l, from)
			ups, err := Ups(n, l, from)
			if err != nil || len(far) != n || len(ups) != n {
				t.Fatalf("Far and Ups of (%d, %v, %d) are %v and %v, %v", n, l, from, far, ups, err)
			}
			for i := range n {
				near, _ := graph.Near(n, l, i)
				for j := range n {
					up := far[i] < 16 && slices.Contains(near, j) && far[j]+rows[i][j] == far[i]
					if slices.Contains(ups[i], j) != up {
						t.Errorf("Ups(%d, %v, %d) = %v for Far %v: wrong for %d and %d", n, l, from, ups, far, i, j)
					}
				}
			}
		}
	})
}

// TestFarIsWhatOthersFind: all algorithms find the same distances.
func TestFarIsWhatOthersFind(t *testing.T) {
	sample.Graphs(func(n int, l []api.Link) {
		rows, _ := graph.Costs(n, l)
		star, err := mat.Star(rows)
		if err != nil {
			t.Fatalf("Star(%v) returns %v", rows, err)
		}
		for from := range n {
			got, err := Far(n, l, from)
			run, _, _ := bell.Run(n, l, from)
			if err != nil || !slices.Equal(got, run) || !slices.Equal(got, star[from]) {
				t.Errorf("Far(%d, %v, %d) = %v, %v, Run finds %v and Star %v", n, l, from, got, err, run, star[from])
			}
		}
	})
}

// TestNumberOfNodes: of 0 nodes, of more than 8, and of numbers that are
// valid in their low bits, there is no graph.
func TestNumberOfNodes(t *testing.T) {
	for _, n := range sample.NotSizes() {
		for _, from := range []int{-1, 0, 1, 7, 8, n - 1, n, n + 1} {
			for _, l := range [][]api.Link{nil, sample.Links(0, 1, 4), sample.Links(0, 0, 4), sample.Links(0, 1, 4, 1, 0, 4)} {
				wantError(t, n, l, from, api.ErrRange)
			}
		}
	}
}

// TestNodeFrom: the first and the last node are nodes, the numbers beside them
// are none.
func TestNodeFrom(t *testing.T) {
	for n := 1; n <= 8; n++ {
		for _, l := range [][]api.Link{nil, sample.Chain(n, 1), sample.Full(n, 3), sample.Made(n, 1, 4)} {
			for _, from := range []int{0, n - 1} {
				far, ups := shortest(n, l, from)
				want(t, n, l, from, far, ups)
			}
			for _, from := range sample.NotNodes(n) {
				wantError(t, n, l, from, api.ErrRange)
			}
		}
	}
}

// TestErrorOfLinks: it is that of the first link at fault, and comes first,
// whatever node from is.
func TestErrorOfLinks(t *testing.T) {
	for _, c := range sample.Faults() {
		for _, from := range append(sample.NotNodes(3), 0, 1, 2) {
			wantError(t, 3, c.Links, from, c.Want)
		}
	}
}

// TestArgumentsStayAsTheyWere: also the memory behind their length, and also
// where there is an error.
func TestArgumentsStayAsTheyWere(t *testing.T) {
	unchanged := func(n int, l []api.Link, from int) {
		memory := slices.Concat(l, sample.Links(7, 7, 77, 8, 8, 88))
		before := slices.Clone(memory)
		_, _ = Far(n, memory[:len(l)], from)
		_, _ = Ups(n, memory[:len(l)], from)
		if !slices.Equal(memory, before) {
			t.Errorf("%v became %v", before, memory)
		}
	}
	sample.Graphs(func(n int, l []api.Link) {
		for from := range n + 1 {
			unchanged(n, l, from)
		}
		unchanged(n, append(l, sample.Links(0, 0, 1)...), 0)
	})
	unchanged(3, sample.Links(0, 1, 4, 1, 0, 4), 0)
	unchanged(9, sample.Links(0, 1, 4), 0)
}

// TestResultsAreOwn: a change of a result, also behind the length of its
// lists, changes no other result, and no other list of the same result.
func TestResultsAreOwn(t *testing.T) {
	sample.Graphs(func(n int, l []api.Link) {
		before := slices.Clone(l)
		for from := range n {
			far, ups := shortest(n, l, from)
			gotFar, _ := Far(n, l, from)
			otherFar, _ := Far(n, l, from)
			gotUps, _ := Ups(n, l, from)
			otherUps, _ := Ups(n, l, from)
			for i := range gotUps {
				if !slices.Equal(gotUps[i], ups[i]) {
					t.Errorf("a change of the lists before list %d made it %v, want %v", i, gotUps[i], ups[i])
				}
				sample.Spoil(gotUps[i])
			}
			sample.Spoil(gotFar)
			if !slices.Equal(otherFar, far) || !same(otherUps, ups) || !slices.Equal(l, before) {
				t.Errorf("other results became %v and %v, want %v and %v", otherFar, otherUps, far, ups)
			}
			want(t, n, l, from, far, ups)
		}
	})
}

// TestArgumentsAreNotKept: a change of the links afterwards changes no result.
func TestArgumentsAreNotKept(t *testing.T) {
	for n := 1; n <= 8; n++ {
		for from := range n {
			l := sample.Made(n, 2, 4)
			far, _ := Far(n, l, from)
			ups, _ := Ups(n, l, from)
			farBefore, upsBefore, all := slices.Clone(far), copied(ups), slices.Clone(l)
			clear(l)
			if !slices.Equal(far, farBefore) || !same(ups, upsBefore) {
				t.Errorf("the results became %v and %v, want %v and %v", far, ups, farBefore, upsBefore)
			}
			want(t, n, all, from, farBefore, upsBefore)
		}
	}
}
