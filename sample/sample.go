// Package sample has graphs, networks and times that the tests of several
// packages use.
package sample

import (
	"math"
	"slices"

	"waywarden/api"
)

// NotNodes returns numbers that are no nodes of a graph with n nodes; some of
// them are nodes in their low bits.
func NotNodes(n int) []int {
	return []int{math.MinInt, -1 << 32, -n, -1, n, n + 1, 256, 1 << 32, 1<<32 + n - 1, math.MaxInt}
}

// NotSizes returns numbers of nodes of which there is no graph; some of them
// are valid in their low bits.
func NotSizes() []int {
	return []int{math.MinInt, -1 << 32, -8, -1, 0, 9, 10, 16, 256 + 8, 1<<32 + 1, 1<<32 + 8, 1 << 62, math.MaxInt}
}

// Links returns each three numbers as a link.
func Links(numbers ...int) []api.Link {
	var l []api.Link
	for at := 0; at+2 < len(numbers); at += 3 {
		l = append(l, api.Link{A: numbers[at], B: numbers[at+1], Cost: numbers[at+2]})
	}
	return l
}

// Fault is a list of links between 3 nodes that is at fault, and the error of
// the first fault.
type Fault struct {
	Links []api.Link
	Want  api.Errno
}

// Faults returns lists of links that have one fault or several.
func Faults() []Fault {
	return []Fault{
		{Links(0, 3, 1), api.ErrRange},
		{Links(3, 0, 1), api.ErrRange},
		{Links(-1, 1, 1), api.ErrRange},
		{Links(1, -1, 1), api.ErrRange},
		{Links(0, 1, 0), api.ErrRange},
		{Links(0, 1, -1), api.ErrRange},
		{Links(0, 1, 16), api.ErrRange},
		{Links(0, 1, 1<<32+1), api.ErrRange},
		{Links(1, 1, 16), api.ErrRange},
		{Links(3, 3, 1), api.ErrRange},
		{Links(1, 1, 1), api.ErrForm},
		{Links(0, 1, 1, 2, 2, 1, 0, 3, 1), api.ErrForm},
		{Links(0, 1, 1, 2, 2, 1, 0, 1, 1), api.ErrForm},
		{Links(0, 1, 1, 0, 1, 1), api.ErrTwice},
		{Links(0, 1, 1, 1, 2, 1, 1, 0, 2), api.ErrTwice},
		{Links(0, 1, 1, 1, 0, 2, 2, 2, 1), api.ErrTwice},
		{Links(0, 1, 1, 1, 0, 16), api.ErrRange},
		{Links(0, 1, 1, 0, 3, 1, 1, 0, 1), api.ErrRange},
		{slices.Repeat(Links(0, 1, 1), 100000), api.ErrTwice},
	}
}

// Chain returns a link of this cost from each of n nodes to the next one.
func Chain(n, cost int) []api.Link {
	var l []api.Link
	for b := 1; b < n; b++ {
		l = append(l, api.Link{A: b - 1, B: b, Cost: cost})
	}
	return l
}

// Full returns a link of this cost between each two of n nodes.
func Full(n, cost int) []api.Link {
	var l []api.Link
	for b := range n {
		for a := range b {
			l = append(l, api.Link{A: a, B: b, Cost: cost})
		}
	}
	return l
}

// Made returns a graph with n nodes that depends on the seed: links between
// some of the pairs, of costs up to most, in mixed order and direction.
func Made(n, seed, most int) []api.Link {
	var l []api.Link
	for a := range n {
		for b := range a {
			r := api.Mix(seed, a*api.MaxNodes+b)
			link := api.Link{A: a, B: b, Cost: 1 + r/16%most}
			if r&1 == 1 {
				link.A, link.B = b, a
			}
			if r/2%8 > seed%7 {
				l = slices.Insert(l, r/256%(len(l)+1), link)
			}
		}
	}
	return l
}

// Graphs calls f for many valid graphs of every size, among them some that
// have no links, and some that are in several parts.
func Graphs(f func(n int, l []api.Link)) {
	for n := 1; n <= api.MaxNodes; n++ {
		f(n, nil)
		f(n, []api.Link{})
		for _, most := range []int{1, 2, 4, 8, 15} {
			f(n, Chain(n, most))
			f(n, Chain(n-n/2, most))
			f(n, Full(n, most))
			for seed := range 28 {
				f(n, Made(n, seed, most))
			}
		}
	}
}

// Fours returns graphs with 4 nodes that have few links, so that these can be
// put in every order.
func Fours() [][]api.Link {
	return [][]api.Link{
		Links(0, 1, 3, 1, 2, 4, 0, 2, 7),
		Links(0, 1, 1, 0, 2, 1, 1, 3, 1, 2, 3, 1),
		Links(0, 1, 8, 1, 3, 8, 0, 2, 8, 2, 3, 7),
		Links(0, 3, 2, 1, 2, 9),
	}
}

// Flipped returns the links in the opposite order, with their ends exchanged.
func Flipped(l []api.Link) []api.Link {
	var other []api.Link
	for _, link := range slices.Backward(l) {
		other = append(other, api.Link{A: link.B, B: link.A, Cost: link.Cost})
	}
	return other
}

// Spoil changes a list and the memory behind its length.
func Spoil(list []int) {
	list = list[:cap(list)]
	for i := range list {
		list[i] = -1
	}
}

// Orders calls f for the links in every order and with the ends of each of
// them in both orders.
func Orders(l []api.Link, f func(l []api.Link)) {
	extend(nil, l, f)
}

// extend calls f for the links of head, followed by those of rest in every
// order and with their ends in both orders.
func extend(head, rest []api.Link, f func(l []api.Link)) {
	if len(rest) == 0 {
		f(slices.Clone(head))
	}
	for i, link := range rest {
		others := slices.Delete(slices.Clone(rest), i, i+1)
		extend(append(slices.Clone(head), link), others, f)
		link.A, link.B = link.B, link.A
		extend(append(slices.Clone(head), link), others, f)
	}
}
