// Package queue: requests that wait.
package queue

import (
	"slices"

	"weighbridge/api"
	"weighbridge/choose"
	"weighbridge/request"
	"weighbridge/span"
)

// Add a request to those that wait; it goes together with the first one that it is next to.
func Add(l []api.Req, r api.Req) ([]api.Req, error) {
	if err := request.Check(r); err != nil {
		return nil, err
	}
	meets := func(o api.Req) bool { return span.Meet(o.Span, r.Span) }
	if slices.ContainsFunc(l, meets) {
		return nil, api.ErrBusy
	}
	for i, o := range l {
		if both, ok := request.Merge(o, r); ok {
			out := slices.Clone(l)
			out[i] = both
			return out, nil
		}
	}
	// Only now: one that goes together with another one needs no room.
	if len(l) >= api.Depth {
		return nil, api.ErrFull
	}
	return append(slices.Clone(l), r), nil
}

// Take the request i of those that wait.
func Take(l []api.Req, i int) ([]api.Req, api.Req) {
	if i < 0 || i >= len(l) {
		return slices.Clone(l), api.Req{}
	}
	return slices.Concat(l[:i], l[i+1:]), l[i]
}

// Oldest of those that write, or read; below 0: there is none.
func Oldest(l []api.Req, write bool) int {
	fits := func(r api.Req) bool { return r.Write == write }
	return choose.Least(l, fits, func(r api.Req) int { return r.Born })
}

// From a place on: the one of those that write, or read, that begins there or first behind it; below 0: there is none.
func From(l []api.Req, write bool, at int) int {
	fits := func(r api.Req) bool { return r.Write == write && r.Span.From >= at }
	return choose.Least(l, fits, func(r api.Req) int { return r.Span.From })
}
