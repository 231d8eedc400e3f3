// Package flight: the datagrams under way to a shard, in their order: see DOC.md, P10.
package flight

import (
	"slices"
	"strings"

	"ferry/api"
)

// Flight is those under way to one shard.
type Flight struct {
	datagrams []string
}

// Put lets a datagram be under way, as the last; it is lost if there are as many as may be.
func (f *Flight) Put(datagram string) {
	if len(f.datagrams) < api.MaxFlight {
		f.datagrams = append(f.datagrams, datagram)
	}
}

// at is the k-th datagram.
func (f *Flight) at(k int) (string, api.Errno) {
	if k < 0 || k >= len(f.datagrams) {
		return "", api.ErrNone
	}
	return f.datagrams[k], api.OK
}

// Take is the k-th datagram, which is under way no more.
func (f *Flight) Take(k int) (string, api.Errno) {
	datagram, e := f.at(k)
	if e != api.OK {
		return "", e
	}
	f.datagrams = slices.Delete(f.datagrams, k, k+1)
	return datagram, api.OK
}

// Double lets the k-th datagram be under way once more.
func (f *Flight) Double(k int) api.Errno {
	datagram, e := f.at(k)
	if e != api.OK {
		return e
	}
	f.Put(datagram)
	return api.OK
}

// Spoil leaves the first n bytes of the k-th datagram. They are bytes of their own, so that what is gone is not kept.
func (f *Flight) Spoil(k, n int) api.Errno {
	datagram, e := f.at(k)
	if e != api.OK {
		return e
	}
	left := min(max(n, 0), len(datagram))
	f.datagrams[k] = strings.Clone(datagram[:left])
	return api.OK
}

// All is the datagrams, in their order.
func (f *Flight) All() []string {
	return slices.Clone(f.datagrams)
}
