package graph

import (
	"math"
	"slices"
	"testing"

	"waywarden/api"
	"waywarden/plain"
)

// notNodes are numbers that are no nodes of a graph with n nodes.
func notNodes(n int) []int {
	return []int{math.MinInt, -1 << 32, -n, -1, n, n + 1, 1 << 32, 1<<32 + n - 1, math.MaxInt}
}

// links returns each three numbers as a link.
func links(numbers ...int) []api.Link {
	var l []api.Link
	for at := 0; at < len(numbers); at += 3 {
		l = append(l, api.Link{A: numbers[at], B: numbers[at+1], Cost: numbers[at+2]})
	}
	return l
}

// sameRows reports whether two lists of rows are equal.
func sameRows(a, b [][]int) bool { return slices.EqualFunc(a, b, slices.Equal[[]int]) }

// wantError checks that every function returns this error and nothing else,
// whichever the other arguments are.
func wantError(t *testing.T, n int, l []api.Link, want api.Errno) {
	t.Helper()
	if err := Check(n, l); plain.Told(err) != want {
		t.Errorf("Check(%d, %v) = %v, want %v", n, l, err, want)
	}
	if rows, err := Costs(n, l); len(rows) != 0 || plain.Told(err) != want {
		t.Errorf("Costs(%d, %v) = %v, %v, want none, %v", n, l, rows, err, want)
	}
	for _, i := range []int{0, -1, n, math.MaxInt} {
		if near, err := Near(n, l, i); len(near) != 0 || plain.Told(err) != want {
			t.Errorf("Near(%d, %v, %d) = %v, %v, want none, %v", n, l, i, near, err, want)
		}
		for _, j := range []int{0, 1, -1, n} {
			if rest, err := Cut(n, l, i, j); len(rest) != 0 || plain.Told(err) != want {
				t.Errorf("Cut(%d, %v, %d, %d) = %v, %v, want none, %v", n, l, i, j, rest, err, want)
			}
		}
	}
}

// wantValid checks that Check and Costs accept a graph.
func wantValid(t *testing.T, n int, l []api.Link) {
	t.Helper()
	if err := Check(n, l); err != nil {
		t.Errorf("Check(%d, %v) = %v, want nil", n, l, err)
	}
	if _, err := Costs(n, l); err != nil {
		t.Errorf("Costs(%d, %v) returns %v, want nil", n, l, err)
	}
}

// some returns a graph with n nodes that depends on the seed: links between
// about half of the pairs, in mixed order and direction.
func some(n, seed int) []api.Link {
	var l []api.Link
	for a := range n {
		for b := range a {
			r := api.Mix(seed, a*api.MaxNodes+b)
			link := api.Link{A: a, B: b, Cost: 1 + r/4%15}
			if r&1 == 1 {
				link.A, link.B = b, a
			}
			if r&2 == 2 {
				l = slices.Insert(l, r/64%(len(l)+1), link)
			}
		}
	}
	return l
}

// full returns a graph with a link between every two of n nodes.
func full(n int) []api.Link {
	var l []api.Link
	for a := range n {
		for b := range a {
			l = append(l, api.Link{A: a, B: b, Cost: 1 + (a+b)%15})
		}
	}
	return l
}

// graphs calls f for many valid graphs of every size.
func graphs(f func(n int, l []api.Link)) {
	for n := 1; n <= api.MaxNodes; n++ {
		f(n, nil)
		f(n, []api.Link{})
		f(n, full(n))
		for seed := range 20 {
			f(n, some(n, seed))
		}
	}
}

// between returns the place in l of the link between a and b, or -1.
func between(l []api.Link, a, b int) int {
	for at, link := range l {
		if link.A == a && link.B == b || link.A == b && link.B == a {
			return at
		}
	}
	return -1
}

func TestExample(t *testing.T) {
	rows, err := Costs(3, links(2, 0, 4))
	if want := [][]int{{0, 16, 4}, {16, 0, 16}, {4, 16, 0}}; err != nil || !sameRows(rows, want) {
		t.Errorf("Costs = %v, %v, want %v", rows, err, want)
	}
}

func TestNumberOfNodes(t *testing.T) {
	for n := 1; n <= 8; n++ {
		wantValid(t, n, nil)
		wantValid(t, n, []api.Link{})
	}
	for _, n := range []int{math.MinInt, -1 << 32, -8, -1, 0, 9, 10, 1<<32 + 1, 1<<32 + 8, math.MaxInt} {
		wantError(t, n, nil, api.ErrRange)
		wantError(t, n, []api.Link{}, api.ErrRange)
		wantError(t, n, links(0, 1, 4), api.ErrRange)
		wantError(t, n, links(0, 0, 4), api.ErrRange)
		wantError(t, n, links(0, 1, 4, 1, 0, 4), api.ErrRange)
	}
}

// TestEnds: the first and the last node may have links, no other number may,
// on either side and on both.
func TestEnds(t *testing.T) {
	for n := 2; n <= api.MaxNodes; n++ {
		wantValid(t, n, links(0, n-1, 1))
		wantValid(t, n, links(n-1, 0, 1))
		for _, x := range notNodes(n) {
			for a := range n {
				wantError(t, n, links(a, x, 1), api.ErrRange)
				wantError(t, n, links(x, a, 1), api.ErrRange)
			}
			for _, y := range notNodes(n) {
				wantError(t, n, links(x, y, 1), api.ErrRange)
			}
		}
	}
}

func TestOneNode(t *testing.T) {
	wantError(t, 1, links(0, 1, 1), api.ErrRange)
	wantError(t, 1, links(0, 0, 1), api.ErrForm)
}

func TestCost(t *testing.T) {
	for cost := 1; cost <= 15; cost++ {
		wantValid(t, 2, links(0, 1, cost))
		wantValid(t, 8, links(7, 6, cost))
	}
	for _, cost := range []int{math.MinInt, -1 << 32, -15, -1, 0, 16, 17, 1<<32 + 1, 1<<32 + 15, math.MaxInt} {
		wantError(t, 2, links(0, 1, cost), api.ErrRange)
		wantError(t, 8, links(7, 6, cost), api.ErrRange)
	}
}

func TestLinkToItself(t *testing.T) {
	for n := 1; n <= api.MaxNodes; n++ {
		for i := range n {
			wantError(t, n, links(i, i, 1), api.ErrForm)
			wantError(t, n, links(i, i, 15), api.ErrForm)
		}
	}
}

// TestSameNodesTwice: also if the links have different costs, or others stand
// between them.
func TestSameNodesTwice(t *testing.T) {
	for a := range api.MaxNodes {
		for b := range a {
			l := []api.Link{{A: a, B: b, Cost: 3}}
			for _, again := range []api.Link{{A: a, B: b, Cost: 3}, {A: b, B: a, Cost: 3}, {A: a, B: b, Cost: 4}, {A: b, B: a, Cost: 4}} {
				wantError(t, api.MaxNodes, append(l, again), api.ErrTwice)
				wantError(t, api.MaxNodes, append(full(api.MaxNodes), again), api.ErrTwice)
			}
		}
	}
}

// TestNotTwice: links that share one node, or the sum or the product of their
// nodes, connect different nodes.
func TestNotTwice(t *testing.T) {
	for n := 1; n <= api.MaxNodes; n++ {
		wantValid(t, n, full(n))
	}
	wantValid(t, 4, links(0, 1, 1, 0, 2, 1, 3, 0, 1))
	wantValid(t, 4, links(0, 3, 1, 1, 2, 1))
	wantValid(t, 7, links(1, 6, 1, 3, 2, 1))
}

// TestFirstErrorOfALink: a link with several faults has the one that the
// chapter lists first.
func TestFirstErrorOfALink(t *testing.T) {
	wantError(t, 3, links(3, 3, 1), api.ErrRange)
	wantError(t, 3, links(-1, -1, 1), api.ErrRange)
	wantError(t, 3, links(1, 1, 0), api.ErrRange)
	wantError(t, 3, links(1, 1, 16), api.ErrRange)
	wantError(t, 3, links(3, 0, 16), api.ErrRange)
	wantError(t, 3, links(0, 1, 4, 0, 1, 16), api.ErrRange)
	wantError(t, 3, links(0, 1, 4, 1, 0, 0), api.ErrRange)
}

// TestFirstErrorOfLinks: all errors of a link precede those of the next one,
// whichever they are.
func TestFirstErrorOfLinks(t *testing.T) {
	faults := []struct {
		link api.Link
		want api.Errno
	}{
		{api.Link{A: 0, B: 3, Cost: 1}, api.ErrRange},
		{api.Link{A: -1, B: 1, Cost: 1}, api.ErrRange},
		{api.Link{A: 0, B: 2, Cost: 16}, api.ErrRange},
		{api.Link{A: 2, B: 0, Cost: 0}, api.ErrRange},
		{api.Link{A: 2, B: 2, Cost: 1}, api.ErrForm},
		{api.Link{A: 1, B: 0, Cost: 1}, api.ErrTwice},
		{api.Link{A: 0, B: 1, Cost: 9}, api.ErrTwice},
	}
	good := api.Link{A: 0, B: 1, Cost: 4}
	for _, first := range faults {
		wantError(t, 3, []api.Link{good, first.link}, first.want)
		wantError(t, 3, []api.Link{good, first.link, {A: 1, B: 2, Cost: 4}}, first.want)
		for _, second := range faults {
			wantError(t, 3, []api.Link{good, first.link, second.link}, first.want)
		}
	}
}

// TestManyLinks: long lists have the error of their first link that stands
// there twice.
func TestManyLinks(t *testing.T) {
	wantError(t, 8, slices.Repeat(links(0, 1, 4), 100000), api.ErrTwice)
	wantError(t, 8, slices.Repeat(full(8), 3), api.ErrTwice)
}

func TestCostsOfEveryTwoNodes(t *testing.T) {
	graphs(func(n int, l []api.Link) {
		rows, err := Costs(n, l)
		if err != nil || len(rows) != n {
			t.Fatalf("Costs(%d, %v) = %v, %v", n, l, rows, err)
		}
		for a, row := range rows {
			if len(row) != n {
				t.Fatalf("Costs(%d, %v) = %v", n, l, rows)
			}
			for b, cost := range row {
				want := 16
				if at := between(l, a, b); at >= 0 {
					want = l[at].Cost
				} else if a == b {
					want = 0
				}
				if cost != want {
					t.Errorf("Costs(%d, %v)[%d][%d] = %d, want %d", n, l, a, b, cost, want)
				}
			}
		}
	})
}

func TestNearOfEveryNode(t *testing.T) {
	graphs(func(n int, l []api.Link) {
		for i := range n {
			var want []int
			for j := range n {
				if between(l, i, j) >= 0 {
					want = append(want, j)
				}
			}
			if near, err := Near(n, l, i); err != nil || !slices.Equal(near, want) {
				t.Errorf("Near(%d, %v, %d) = %v, %v, want %v", n, l, i, near, err, want)
			}
		}
	})
}

// TestNearInOrder: the links stand in another order than their nodes, and the
// costs in a third one.
func TestNearInOrder(t *testing.T) {
	l := links(7, 3, 15, 3, 1, 2, 5, 3, 1, 3, 0, 9, 0, 7, 1)
	for i, want := range [][]int{{3, 7}, {3}, nil, {0, 1, 5, 7}, nil, {3}, nil, {0, 3}} {
		if near, err := Near(8, l, i); err != nil || !slices.Equal(near, want) {
			t.Errorf("Near of %d = %v, %v, want %v", i, near, err, want)
		}
	}
}

func TestNearOfNoNode(t *testing.T) {
	graphs(func(n int, l []api.Link) {
		for _, i := range notNodes(n) {
			if near, err := Near(n, l, i); len(near) != 0 || plain.Told(err) != api.ErrRange {
				t.Errorf("Near(%d, %v, %d) = %v, %v, want none, ErrRange", n, l, i, near, err)
			}
		}
	})
}

// TestCutOfEveryTwoNodes: the other links remain, in their order and with the
// ends as they were.
func TestCutOfEveryTwoNodes(t *testing.T) {
	graphs(func(n int, l []api.Link) {
		for a := range n {
			for b := range n {
				at := between(l, a, b)
				rest, err := Cut(n, l, a, b)
				if at < 0 {
					if len(rest) != 0 || plain.Told(err) != api.ErrNone {
						t.Errorf("Cut(%d, %v, %d, %d) = %v, %v, want none, ErrNone", n, l, a, b, rest, err)
					}
					continue
				}
				want := slices.Concat(l[:at], l[at+1:])
				if err != nil || !slices.Equal(rest, want) {
					t.Errorf("Cut(%d, %v, %d, %d) = %v, %v, want %v", n, l, a, b, rest, err, want)
				}
			}
		}
	})
}

// TestCutOfNoNodes: no link is between numbers that are no nodes, also where
// the numbers are equal.
func TestCutOfNoNodes(t *testing.T) {
	graphs(func(n int, l []api.Link) {
		for _, x := range notNodes(n) {
			for _, y := range append(notNodes(n), 0, n-1) {
				for _, pair := range [][2]int{{x, y}, {y, x}} {
					rest, err := Cut(n, l, pair[0], pair[1])
					if len(rest) != 0 || plain.Told(err) != api.ErrNone {
						t.Errorf("Cut(%d, %v, %d, %d) = %v, %v, want none, ErrNone", n, l, pair[0], pair[1], rest, err)
					}
				}
			}
		}
	})
}

// TestCutAgain: a link that has been cut is no longer there, and all links
// can be cut one after the other.
func TestCutAgain(t *testing.T) {
	l := full(api.MaxNodes)
	for len(l) > 0 {
		link := l[len(l)/2]
		rest, err := Cut(api.MaxNodes, l, link.B, link.A)
		if err != nil || len(rest) != len(l)-1 {
			t.Fatalf("Cut of %v = %v, %v", link, rest, err)
		}
		if _, err := Cut(api.MaxNodes, rest, link.A, link.B); plain.Told(err) != api.ErrNone {
			t.Errorf("Cut of %v again returns %v, want ErrNone", link, err)
		}
		l = rest
	}
}

// askAll calls every function with l.
func askAll(n int, l []api.Link) {
	_ = Check(n, l)
	_, _ = Costs(n, l)
	for i := -1; i <= n; i++ {
		_, _ = Near(n, l, i)
		for j := -1; j <= n; j++ {
			_, _ = Cut(n, l, i, j)
		}
	}
}

// TestLinksStayAsTheyWere: also the memory behind their length.
func TestLinksStayAsTheyWere(t *testing.T) {
	behind := links(7, 7, 77, 8, 8, 88)
	unchanged := func(n int, l []api.Link) {
		memory := slices.Concat(l, behind)
		before := slices.Clone(memory)
		askAll(n, memory[:len(l)])
		if !slices.Equal(memory, before) {
			t.Errorf("the links %v became %v", before, memory)
		}
	}
	graphs(unchanged)
	unchanged(3, links(0, 1, 4, 1, 0, 4))
	unchanged(3, links(0, 1, 4, 2, 2, 4))
	unchanged(3, links(0, 1, 4, 2, 3, 4))
	unchanged(0, links(0, 1, 4))
}

// TestResultsAreOwn: a change of a result, also behind its length, changes
// neither the links nor another row nor another result.
func TestResultsAreOwn(t *testing.T) {
	l := full(4)
	before := slices.Clone(l)
	rows, _ := Costs(4, l)
	again, _ := Costs(4, l)
	near, _ := Near(4, l, 1)
	nearAgain, _ := Near(4, l, 1)
	rest, _ := Cut(4, l, 3, 2)
	restAgain, _ := Cut(4, l, 3, 2)
	for i, row := range rows {
		for j := range row {
			row[j] = -1
		}
		_ = append(row, -1)
		if i+1 < len(rows) && !slices.Equal(rows[i+1], again[i+1]) {
			t.Errorf("a change of row %d changed the next one to %v", i, rows[i+1])
		}
	}
	near[0] = -1
	_ = append(near, -1)
	rest[0] = api.Link{A: -1}
	_ = append(rest, api.Link{A: -1})
	if !slices.Equal(l, before) {
		t.Errorf("the links %v became %v", before, l)
	}
	if !slices.Equal(nearAgain, []int{0, 2, 3}) || !slices.Equal(restAgain, before[:5]) {
		t.Errorf("other results became %v and %v", nearAgain, restAgain)
	}
	if want, _ := Costs(4, l); !sameRows(again, want) {
		t.Errorf("other rows became %v", again)
	}
}

// TestLinksAreNotKept: a change of the links afterwards changes no result.
func TestLinksAreNotKept(t *testing.T) {
	l := full(4)
	rest, _ := Cut(4, l, 3, 2)
	want := slices.Clone(rest)
	clear(l)
	if !slices.Equal(rest, want) {
		t.Errorf("the result of Cut became %v", rest)
	}
}
