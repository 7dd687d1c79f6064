package sample

import (
	"math"
	"slices"

	"waywarden/api"
)

// NotNet is what is no network, and the error that pref.Check returns for it.
type NotNet struct {
	Net  api.Net
	Want api.Errno
}

// NotNets returns what is no network; some of them are networks in the low
// bits of their lengths, and some are at fault twice.
func NotNets() []NotNet {
	return []NotNet{
		{api.Net{Len: -1}, api.ErrRange},
		{api.Net{Len: 33}, api.ErrRange},
		{api.Net{Len: 64}, api.ErrRange},
		{api.Net{Len: math.MaxInt}, api.ErrRange},
		{api.Net{Len: math.MinInt}, api.ErrRange},
		{api.Net{Len: 1<<32 + 8}, api.ErrRange},
		{api.Net{Addr: 0x0a000000, Len: 1<<32 + 8}, api.ErrRange},
		{api.Net{Addr: 1, Len: 33}, api.ErrRange},
		{api.Net{Addr: 1, Len: -1}, api.ErrRange},
		{api.Net{Addr: 1, Len: 0}, api.ErrForm},
		{api.Net{Addr: 1, Len: 31}, api.ErrForm},
		{api.Net{Addr: 0x0a000001, Len: 8}, api.ErrForm},
		{api.Net{Addr: 0xffffffff, Len: 31}, api.ErrForm},
		{api.Net{Addr: 0x80000000, Len: 0}, api.ErrForm},
	}
}

// Hosts returns count networks of one address each, step apart.
func Hosts(first uint32, count, step int) []api.Net {
	var nets []api.Net
	for i := range count {
		nets = append(nets, api.Net{Addr: first + uint32(i*step), Len: 32})
	}
	return nets
}

// Shuffled returns the elements in an order that depends on the seed.
func Shuffled[E any](l []E, seed int) []E {
	mixed := slices.Clone(l)
	for i := len(mixed) - 1; i > 0; i-- {
		j := api.Mix(seed, i) % (i + 1)
		mixed[i], mixed[j] = mixed[j], mixed[i]
	}
	return mixed
}
