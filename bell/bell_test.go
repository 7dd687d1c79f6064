package bell

import (
	"math"
	"slices"
	"testing"

	"waywarden/api"
	"waywarden/graph"
	"waywarden/mat"
	"waywarden/plain"
	"waywarden/sample"
)

// notDistances are numbers that are no distances; some of them are distances
// in their low bits, or are small when a cost is added.
var notDistances = []int{
	math.MinInt, -1 << 32, -256, -16, -15, -1,
	17, 18, 32, 256, 1 << 32, 1<<32 + 9, math.MaxInt - 15, math.MaxInt,
}

// first returns what Start has to return.
func first(n, to int) []int {
	d := make([]int, n)
	for i := range d {
		if i != to {
			d[i] = 16
		}
	}
	return d
}

// after returns what Round has to return, link by link and without the
// functions of the program.
func after(n int, l []api.Link, to int, d []int) []int {
	next := slices.Repeat([]int{16}, n)
	for _, link := range l {
		next[link.A] = min(next[link.A], link.Cost+d[link.B])
		next[link.B] = min(next[link.B], link.Cost+d[link.A])
	}
	next[to] = 0
	return next
}

// lists calls f for several lists of n estimates.
func lists(n int, f func(d []int)) {
	for _, same := range []int{0, 1, 15, 16} {
		f(slices.Repeat([]int{same}, n))
	}
	for seed := range 6 {
		d := make([]int, n)
		for i := range d {
			d[i] = api.Mix(seed, i+n) % 17
		}
		f(d)
	}
}

func wantStart(t *testing.T, n, to int, want []int) {
	t.Helper()
	if got, err := Start(n, to); err != nil || !slices.Equal(got, want) {
		t.Errorf("Start(%d, %d) = %v, %v, want %v", n, to, got, err, want)
	}
}

func wantRound(t *testing.T, n int, l []api.Link, to int, d, want []int) {
	t.Helper()
	if got, err := Round(n, l, to, d); err != nil || !slices.Equal(got, want) {
		t.Errorf("Round(%d, %v, %d, %v) = %v, %v, want %v", n, l, to, d, got, err, want)
	}
}

func wantRun(t *testing.T, n int, l []api.Link, to int, want []int, rounds int) {
	t.Helper()
	if got, k, err := Run(n, l, to); err != nil || !slices.Equal(got, want) || k != rounds {
		t.Errorf("Run(%d, %v, %d) = %v, %d, %v, want %v, %d", n, l, to, got, k, err, want, rounds)
	}
}

func wantStartError(t *testing.T, n, to int) {
	t.Helper()
	if got, err := Start(n, to); len(got) != 0 || plain.Told(err) != api.ErrRange {
		t.Errorf("Start(%d, %d) = %v, %v, want none, ErrRange", n, to, got, err)
	}
}

func wantRoundError(t *testing.T, n int, l []api.Link, to int, d []int, want api.Errno) {
	t.Helper()
	if got, err := Round(n, l, to, d); len(got) != 0 || plain.Told(err) != want {
		t.Errorf("Round(%d, %v, %d, %v) = %v, %v, want none, %v", n, l, to, d, got, err, want)
	}
}

func wantRunError(t *testing.T, n int, l []api.Link, to int, want api.Errno) {
	t.Helper()
	if got, k, err := Run(n, l, to); len(got) != 0 || k != 0 || plain.Told(err) != want {
		t.Errorf("Run(%d, %v, %d) = %v, %d, %v, want none, 0, %v", n, l, to, got, k, err, want)
	}
}

func TestExample(t *testing.T) {
	l := sample.Links(0, 1, 3, 1, 2, 4)
	wantRun(t, 3, l, 0, []int{0, 3, 7}, 2)
	wantStart(t, 3, 0, []int{0, 16, 16})
	wantRound(t, 3, l, 0, []int{0, 16, 16}, []int{0, 3, 16})
	wantRound(t, 3, l, 0, []int{0, 3, 16}, []int{0, 3, 7})
	wantRound(t, 3, l, 0, []int{0, 3, 7}, []int{0, 3, 7})
}

func TestStart(t *testing.T) {
	for n := 1; n <= 8; n++ {
		for to := range n {
			wantStart(t, n, to, first(n, to))
		}
	}
}

// TestNumberOfNodes: of 0 nodes, of more than 8, and of numbers that are
// valid in their low bits, there is no graph.
func TestNumberOfNodes(t *testing.T) {
	for _, n := range sample.NotSizes() {
		for _, to := range []int{-1, 0, 1, 7, 8, n - 1, n, n + 1} {
			wantStartError(t, n, to)
			for _, l := range [][]api.Link{nil, sample.Links(0, 1, 4), sample.Links(0, 0, 4), sample.Links(0, 1, 4, 1, 0, 4)} {
				wantRunError(t, n, l, to, api.ErrRange)
				for _, length := range []int{0, 1, 8, 9, 10} {
					wantRoundError(t, n, l, to, make([]int, length), api.ErrRange)
				}
			}
		}
	}
}

// TestNodeTo: the first and the last node are nodes, the numbers beside them
// are none.
func TestNodeTo(t *testing.T) {
	for n := 1; n <= 8; n++ {
		for _, l := range [][]api.Link{nil, sample.Chain(n, 1), sample.Made(n, 1, 4)} {
			for _, to := range []int{0, n - 1} {
				_, errStart := Start(n, to)
				_, errRound := Round(n, l, to, make([]int, n))
				_, _, errRun := Run(n, l, to)
				if errStart != nil || errRound != nil || errRun != nil {
					t.Errorf("node %d of %d: errors %v, %v and %v", to, n, errStart, errRound, errRun)
				}
			}
			for _, to := range sample.NotNodes(n) {
				wantStartError(t, n, to)
				wantRoundError(t, n, l, to, make([]int, n), api.ErrRange)
				wantRunError(t, n, l, to, api.ErrRange)
			}
		}
	}
}

// TestLengthOfEstimates: lists that are too short, too long or empty.
func TestLengthOfEstimates(t *testing.T) {
	for n := 1; n <= 8; n++ {
		for to := range n {
			for _, length := range []int{0, n - 1, n + 1, 2 * n, n + 256, 1 << 16} {
				wantRoundError(t, n, sample.Chain(n, 2), to, make([]int, length), api.ErrForm)
				wantRoundError(t, n, nil, to, make([]int, length), api.ErrForm)
			}
			wantRoundError(t, n, sample.Chain(n, 2), to, nil, api.ErrForm)
			wantRoundError(t, n, sample.Chain(n, 2), to, make([]int, n-1, n), api.ErrForm)
		}
	}
}

// TestLimitsOfEstimates: at every place, also at that of node to and at those
// of nodes without neighbors.
func TestLimitsOfEstimates(t *testing.T) {
	for n := 1; n <= 8; n++ {
		for to := range n {
			for at := range n {
				for _, l := range [][]api.Link{nil, sample.Chain(n, 1)} {
					d := first(n, to)
					for _, valid := range []int{0, 1, 15, 16} {
						d[at] = valid
						wantRound(t, n, l, to, d, after(n, l, to, d))
					}
					for _, invalid := range notDistances {
						d[at] = invalid
						wantRoundError(t, n, l, to, d, api.ErrRange)
					}
				}
			}
		}
	}
}

// TestErrorOfLinks: it comes first, whatever else is at fault.
func TestErrorOfLinks(t *testing.T) {
	for _, c := range sample.Faults() {
		for _, to := range append(sample.NotNodes(3), 0, 1, 2) {
			if got, k, err := Run(3, c.Links, to); len(got) != 0 || k != 0 || plain.Told(err) != c.Want {
				t.Errorf("Run(3, %v, %d) = %v, %d, %v, want none, 0, %v", c.Links[:min(len(c.Links), 3)], to, got, k, err, c.Want)
			}
			for _, d := range [][]int{{0, 16, 16}, nil, {0, 1}, {0, 1, 2, 3}, {-1, 17, 0}, {17, 0}} {
				if got, err := Round(3, c.Links, to, d); len(got) != 0 || plain.Told(err) != c.Want {
					t.Errorf("Round(3, %v, %d, %v) = %v, %v, want none, %v", c.Links[:min(len(c.Links), 3)], to, d, got, err, c.Want)
				}
			}
		}
	}
}

// TestFirstErrorOfRound: that there is no node to is told before the length of
// the estimates, and this before an estimate that is no distance.
func TestFirstErrorOfRound(t *testing.T) {
	l := sample.Links(0, 1, 3, 1, 2, 4)
	for _, to := range sample.NotNodes(3) {
		for _, d := range [][]int{nil, {0}, {0, 1, 2, 3}, {17, 0, 0}, {-1}, make([]int, 9)} {
			wantRoundError(t, 3, l, to, d, api.ErrRange)
		}
	}
	for to := range 3 {
		for _, d := range [][]int{{17}, {-1, 17}, {17, 17, 17, 17}, {0, 1, 2, -1}, {-1, 1, 2, 3}} {
			wantRoundError(t, 3, l, to, d, api.ErrForm)
		}
		for _, d := range [][]int{{-1, 17, 0}, {0, 17, -1}, {17, 17, 17}, {16, 0, 17}} {
			wantRoundError(t, 3, l, to, d, api.ErrRange)
		}
	}
}

// TestRoundOverOneLink: all costs and all estimates, so also all sums that are
// just below 16, reach it and go beyond it, and all that may be handed in for
// either node itself.
func TestRoundOverOneLink(t *testing.T) {
	for cost := 1; cost <= 15; cost++ {
		for p := range 17 {
			for q := range 17 {
				wantRound(t, 2, sample.Links(0, 1, cost), 0, []int{p, q}, []int{0, min(p+cost, 16)})
				wantRound(t, 2, sample.Links(0, 1, cost), 1, []int{p, q}, []int{min(q+cost, 16), 0})
			}
		}
	}
}

func TestSumsAboutInfinity(t *testing.T) {
	l := sample.Links(0, 1, 8, 0, 2, 15, 0, 3, 1)
	wantRound(t, 4, l, 3, []int{7, 16, 16, 0}, []int{1, 15, 16, 0})
	wantRound(t, 4, l, 3, []int{8, 16, 16, 0}, []int{1, 16, 16, 0})
	wantRound(t, 4, l, 3, []int{9, 16, 16, 0}, []int{1, 16, 16, 0})
	wantRound(t, 4, l, 3, []int{0, 16, 16, 0}, []int{1, 8, 15, 0})
	wantRound(t, 4, l, 3, []int{1, 16, 16, 0}, []int{1, 9, 16, 0})
	wantRound(t, 4, l, 1, []int{16, 15, 16, 15}, []int{16, 0, 16, 16})
	wantRun(t, 4, sample.Chain(4, 5), 0, []int{0, 5, 10, 15}, 3)
	wantRun(t, 4, sample.Links(0, 1, 5, 1, 2, 5, 2, 3, 6), 0, []int{0, 5, 10, 16}, 2)
	wantRun(t, 4, sample.Links(0, 1, 5, 1, 2, 5, 2, 3, 7), 0, []int{0, 5, 10, 16}, 2)
	wantRun(t, 5, sample.Chain(5, 8), 2, []int{16, 8, 0, 8, 16}, 1)
	wantRun(t, 4, sample.Chain(4, 15), 3, []int{16, 16, 15, 0}, 1)
}

// TestNodeToIsHandedIn: whatever is handed in for node to, it has 0 then, and
// its neighbors add to what was handed in.
func TestNodeToIsHandedIn(t *testing.T) {
	for n := 2; n <= 8; n++ {
		for to := range n {
			var l []api.Link
			for i := range n {
				if i != to {
					l = append(l, api.Link{A: to, B: i, Cost: 1 + i})
				}
			}
			for p := range 17 {
				d := slices.Repeat([]int{16}, n)
				d[to] = p
				want := make([]int, n)
				for i := range n {
					if i != to {
						want[i] = min(1+i+p, 16)
					}
				}
				wantRound(t, n, l, to, d, want)
			}
		}
	}
}

// TestOwnEstimate: that of the node itself is none of its neighbors', so new
// estimates may also be greater.
func TestOwnEstimate(t *testing.T) {
	l := sample.Links(0, 1, 3, 1, 2, 4)
	wantRound(t, 3, l, 0, []int{0, 1, 2}, []int{0, 3, 5})
	wantRound(t, 3, l, 0, []int{16, 0, 0}, []int{0, 4, 4})
	wantRound(t, 3, l, 0, []int{16, 0, 16}, []int{0, 16, 4})
	wantRound(t, 3, l, 2, []int{0, 0, 0}, []int{3, 3, 0})
}

// TestNodesWithoutNeighbors: they have 16 then, whatever their estimate was,
// unless they are node to.
func TestNodesWithoutNeighbors(t *testing.T) {
	for n := 1; n <= 8; n++ {
		for to := range n {
			lists(n, func(d []int) { wantRound(t, n, nil, to, d, first(n, to)) })
			wantRun(t, n, nil, to, first(n, to), 0)
		}
	}
	l := sample.Links(1, 3, 2)
	wantRound(t, 4, l, 1, []int{5, 0, 5, 5}, []int{16, 0, 16, 2})
	wantRound(t, 4, l, 0, []int{5, 4, 5, 5}, []int{0, 7, 16, 6})
	wantRun(t, 4, l, 1, []int{16, 0, 16, 2}, 1)
	wantRun(t, 4, l, 2, []int{16, 16, 0, 16}, 0)
}

// TestSeveralParts: nodes of other parts stay at 16, and do not count rounds.
func TestSeveralParts(t *testing.T) {
	l := sample.Links(0, 1, 1, 1, 2, 1, 4, 3, 2, 5, 4, 3, 6, 5, 4)
	wantRun(t, 8, l, 0, []int{0, 1, 2, 16, 16, 16, 16, 16}, 2)
	wantRun(t, 8, l, 1, []int{1, 0, 1, 16, 16, 16, 16, 16}, 1)
	wantRun(t, 8, l, 3, []int{16, 16, 16, 0, 2, 5, 9, 16}, 3)
	wantRun(t, 8, l, 6, []int{16, 16, 16, 9, 7, 4, 0, 16}, 3)
	wantRun(t, 8, l, 7, []int{16, 16, 16, 16, 16, 16, 16, 0}, 0)
}

// TestRoundOfGraphs compares with the minimum link by link.
func TestRoundOfGraphs(t *testing.T) {
	sample.Graphs(func(n int, l []api.Link) {
		for to := range n {
			wantRound(t, n, l, to, first(n, to), after(n, l, to, first(n, to)))
			lists(n, func(d []int) { wantRound(t, n, l, to, d, after(n, l, to, d)) })
		}
	})
}

// TestSmallestOfManyNeighbors: each node in turn is the one by which the
// estimate is smallest.
func TestSmallestOfManyNeighbors(t *testing.T) {
	for n := 3; n <= 8; n++ {
		for j := 1; j < n; j++ {
			for i := 1; i < n; i++ {
				if i == j {
					continue
				}
				var l []api.Link
				for k := range n {
					if k != i {
						l = append(l, api.Link{A: i, B: k, Cost: 3})
					}
				}
				d := slices.Repeat([]int{7}, n)
				d[i], d[j] = 0, 6
				if got, err := Round(n, l, 0, d); err != nil || got[i] != 9 {
					t.Errorf("Round(%d, %v, 0, %v) = %v, %v, want 9 for node %d", n, l, d, got, err, i)
				}
			}
		}
	}
}

// TestDirectionsAndOrders: links may be told in every direction and order.
func TestDirectionsAndOrders(t *testing.T) {
	l := sample.Links(0, 1, 9, 0, 2, 2, 2, 1, 3, 1, 3, 4)
	sample.Orders(l, func(l []api.Link) {
		wantRound(t, 4, l, 0, []int{0, 16, 16, 16}, []int{0, 9, 2, 16})
		wantRound(t, 4, l, 0, []int{1, 2, 3, 4}, []int{0, 6, 3, 6})
		wantRun(t, 4, l, 0, []int{0, 5, 2, 9}, 3)
		wantRun(t, 4, l, 3, []int{9, 4, 7, 0}, 3)
	})
	sample.Graphs(func(n int, l []api.Link) {
		for to := range n {
			d, k, _ := Run(n, l, to)
			wantRun(t, n, sample.Flipped(l), to, d, k)
		}
	})
}

// TestRunIsRounds compares with rounds done one by one, as they have to be and
// as Round does them, until nothing changes.
func TestRunIsRounds(t *testing.T) {
	sample.Graphs(func(n int, l []api.Link) {
		for to := range n {
			want, rounds := first(n, to), 0
			for next := after(n, l, to, want); !slices.Equal(next, want); next = after(n, l, to, want) {
				want, rounds = next, rounds+1
			}
			wantRun(t, n, l, to, want, rounds)
			wantRound(t, n, l, to, want, want)
			d, err := Start(n, to)
			for range rounds {
				before := d
				d, err = Round(n, l, to, before)
				if err != nil || slices.Equal(d, before) {
					t.Errorf("Round(%d, %v, %d, %v) = %v, %v, want a change", n, l, to, before, d, err)
				}
			}
			if !slices.Equal(d, want) {
				t.Errorf("%d rounds of (%d, %v, %d) lead to %v, want %v", rounds, n, l, to, d, want)
			}
		}
	})
}

// visit notes in far the smallest sum of costs with which node at is reached
// and in few the fewest links with this sum, and then those of the nodes
// behind it.
func visit(l []api.Link, at, sum, steps int, far, few []int) {
	if sum > far[at] || sum == far[at] && steps >= few[at] {
		return
	}
	far[at], few[at] = sum, steps
	for _, link := range l {
		if link.A == at {
			visit(l, link.B, sum+link.Cost, steps+1, far, few)
		}
		if link.B == at {
			visit(l, link.A, sum+link.Cost, steps+1, far, few)
		}
	}
}

// TestRunFindsPaths: the estimates are the smallest sums along a path, and
// there are as many rounds as the longest of these paths has links, if each
// has as few as it can have.
func TestRunFindsPaths(t *testing.T) {
	sample.Graphs(func(n int, l []api.Link) {
		for to := range n {
			far, few := slices.Repeat([]int{16}, n), make([]int, n)
			visit(l, to, 0, 0, far, few)
			wantRun(t, n, l, to, far, slices.Max(few))
		}
	})
}

// TestRunFindsWhatStarFinds: all algorithms find the same distances.
func TestRunFindsWhatStarFinds(t *testing.T) {
	sample.Graphs(func(n int, l []api.Link) {
		rows, err := graph.Costs(n, l)
		if err != nil {
			t.Fatalf("Costs(%d, %v) returns %v", n, l, err)
		}
		star, err := mat.Star(rows)
		if err != nil {
			t.Fatalf("Star(%v) returns %v", rows, err)
		}
		for to := range n {
			if got, _, err := Run(n, l, to); err != nil || !slices.Equal(got, star[to]) {
				t.Errorf("Run(%d, %v, %d) = %v, %v, want %v", n, l, to, got, err, star[to])
			}
		}
	})
}

// TestNumberOfRounds: a chain of n nodes needs n - 1 rounds from its end and
// fewer from its middle, one node none, and a round that only shows that
// nothing changes does not count.
func TestNumberOfRounds(t *testing.T) {
	wantRun(t, 1, nil, 0, []int{0}, 0)
	wantRun(t, 8, sample.Chain(8, 1), 0, []int{0, 1, 2, 3, 4, 5, 6, 7}, 7)
	wantRun(t, 8, sample.Chain(8, 2), 7, []int{14, 12, 10, 8, 6, 4, 2, 0}, 7)
	wantRun(t, 8, sample.Chain(8, 2), 3, []int{6, 4, 2, 0, 2, 4, 6, 8}, 4)
	wantRun(t, 2, sample.Links(1, 0, 15), 0, []int{0, 15}, 1)
	wantRun(t, 3, sample.Links(0, 1, 3, 1, 2, 4, 0, 2, 7), 0, []int{0, 3, 7}, 1)
	wantRun(t, 3, sample.Links(0, 1, 3, 1, 2, 4, 0, 2, 8), 0, []int{0, 3, 7}, 2)
	wantRun(t, 3, sample.Links(0, 1, 3, 1, 2, 4, 0, 2, 8), 2, []int{7, 4, 0}, 2)
}

// TestArgumentsStayAsTheyWere: also the memory behind their length, and also
// where there is an error.
func TestArgumentsStayAsTheyWere(t *testing.T) {
	unchanged := func(n int, l []api.Link, to int, d []int) {
		memory, list := slices.Concat(l, sample.Links(7, 7, 77, 8, 8, 88)), append(slices.Clone(d), 70, 71)
		linksBefore, listBefore := slices.Clone(memory), slices.Clone(list)
		_, _ = Round(n, memory[:len(l)], to, list[:len(d)])
		_, _, _ = Run(n, memory[:len(l)], to)
		if !slices.Equal(memory, linksBefore) || !slices.Equal(list, listBefore) {
			t.Errorf("%v and %v became %v and %v", linksBefore, listBefore, memory, list)
		}
	}
	sample.Graphs(func(n int, l []api.Link) {
		for to := range n {
			lists(n, func(d []int) { unchanged(n, l, to, d) })
		}
		unchanged(n, l, n, make([]int, n))
		unchanged(n, l, 0, make([]int, n+1))
		unchanged(n, l, 0, slices.Repeat([]int{17}, n))
	})
	unchanged(3, sample.Links(0, 1, 4, 1, 0, 4), 0, []int{0, 16, 16})
	unchanged(9, sample.Links(0, 1, 4), 0, make([]int, 9))
}

// wantOwn checks that a change of what ask returns, also behind its length,
// changes nothing that ask returns otherwise.
func wantOwn(t *testing.T, name string, ask func() []int) {
	t.Helper()
	d, other := ask(), ask()
	want := slices.Clone(d)
	if len(d) == 0 {
		t.Fatalf("%s returns no estimates", name)
	}
	for i := range d {
		d[i] = -1
	}
	_ = append(d, -1, -1)
	if !slices.Equal(other, want) {
		t.Errorf("%s: another result became %v, want %v", name, other, want)
	}
	if again := ask(); !slices.Equal(again, want) {
		t.Errorf("%s returns %v afterwards, want %v", name, again, want)
	}
}

func TestResultsAreOwn(t *testing.T) {
	for n := 1; n <= 8; n++ {
		l := sample.Made(n, 3, 4)
		linksBefore := slices.Clone(l)
		for to := range n {
			// Estimates that a round does not change might be handed back.
			d, _, _ := Run(n, l, to)
			before := slices.Clone(d)
			wantOwn(t, "Start", func() []int { d, _ := Start(n, to); return d })
			wantOwn(t, "Round", func() []int { d, _ := Round(n, l, to, d); return d })
			wantOwn(t, "Run", func() []int { d, _, _ := Run(n, l, to); return d })
			wantOwn(t, "Run without links", func() []int { d, _, _ := Run(n, nil, to); return d })
			if !slices.Equal(d, before) || !slices.Equal(l, linksBefore) {
				t.Errorf("a change of a result changed %v to %v or %v to %v", before, d, linksBefore, l)
			}
		}
	}
}

// TestArgumentsAreNotKept: a change of the links and of the estimates
// afterwards changes no result.
func TestArgumentsAreNotKept(t *testing.T) {
	for n := 1; n <= 8; n++ {
		for to := range n {
			l := sample.Made(n, 2, 4)
			d, rounds, _ := Run(n, l, to)
			want := slices.Clone(d)
			next, _ := Round(n, l, to, d)
			again, _, _ := Run(n, l, to)
			all := slices.Clone(l)
			clear(l)
			for i := range d {
				d[i] = -1
			}
			if !slices.Equal(next, want) || !slices.Equal(again, want) {
				t.Errorf("the results became %v and %v, want %v", next, again, want)
			}
			wantRun(t, n, all, to, want, rounds)
		}
	}
}
