package sample

import (
	"math"
	"slices"

	"waywarden/api"
)

// NotNet is what is no network, and the error that pref.Check returns for it.
type NotNet struct {
	Net  api.Net
	Want api.Errno
}

// NotNets returns what is no network; some of them are networks in the low
// bits of their lengths, and some are at fault twice.
func NotNets() []NotNet {
	return []NotNet{
		{api.Net{Len: -1}, api.ErrRange},
		{api.Net{Len: 33}, api.ErrRange},
		{api.Net{Len: 64}, api.ErrRange},
		{api.Net{Len: math.MaxInt}, api.ErrRange},
		{api.Net{Len: math.MinInt}, api.ErrRange},
		{api.Net{Len: 1<<32 + 8}, api.ErrRange},
		{api.Net{Addr: 0x0a000000, Len: 1<<32 + 8}, api.ErrRange},
		{api.Net{Addr: 1, Len: 33}, api.ErrRange},
		{api.Net{Addr: 1, Len: -1}, api.ErrRange},
		{api.Net{Addr: 1, Len: 0}, api.ErrForm},
		{api.Net{Addr: 1, Len: 31}, api.ErrForm},
		{api.Net{Addr: 0x0a000001, Len: 8}, api.ErrForm},
		{api.Net{Addr: 0xffffffff, Len: 31}, api.ErrForm},
		{api.Net{Addr: 0x80000000, Len: 0}, api.ErrForm},
	}
}

// Ordered returns networks in the order of pref.Less, among them some with the
// same address, the least and the greatest one, and lengths of one and of two
// digits.
func Ordered() []api.Net {
	return []api.Net{
		{}, {Len: 1}, {Len: 2}, {Len: 9}, {Len: 10}, {Len: 31}, {Len: 32},
		{Addr: 1, Len: 32}, {Addr: 2, Len: 31},
		{Addr: 0x09ffffff, Len: 32}, {Addr: 0x0a000000, Len: 8}, {Addr: 0x0a000000, Len: 24}, {Addr: 0x0b000000, Len: 8},
		{Addr: 0x7fffffff, Len: 32}, {Addr: 0x80000000, Len: 1}, {Addr: 0x80000000, Len: 32},
		{Addr: 0xc0a80000, Len: 16}, {Addr: 0xfffffffe, Len: 31}, {Addr: 0xffffffff, Len: 32},
	}
}

// Hosts returns count networks of one address each, step apart.
func Hosts(first uint32, count, step int) []api.Net {
	var nets []api.Net
	for i := range count {
		nets = append(nets, api.Net{Addr: first + uint32(i*step), Len: 32})
	}
	return nets
}

// Shuffled returns the elements in an order that depends on the seed.
func Shuffled[E any](l []E, seed int) []E {
	mixed := slices.Clone(l)
	for i := len(mixed) - 1; i > 0; i-- {
		j := api.Mix(seed, i) % (i + 1)
		mixed[i], mixed[j] = mixed[j], mixed[i]
	}
	return mixed
}
