// Package elevator: whose turn it is.
package elevator

import (
	"weighbridge/api"
	"weighbridge/queue"
)

// Next request of those that wait (there is one): which, and whose turn it is then.
func Next(l []api.Req, t api.Turn, now int) (int, api.Turn) {
	i := goesOn(l, t)
	then := t
	if i >= 0 {
		then.Gone++
	} else {
		then = begin(l, t)
		i = firstOf(l, then, now)
	}
	// Of none that wait none goes, and the turn stays as it was.
	if i < 0 {
		return -1, t
	}
	then.Where = l[i].Span.From + l[i].Span.Many
	return i, then
}

// goesOn: which one goes in the turn that has begun; -1: the turn is over.
func goesOn(l []api.Req, t api.Turn) int {
	if t.Gone <= 0 || t.Gone >= api.Batch {
		return -1
	}
	return queue.From(l, t.Write, t.Where)
}

// begin a turn: whose it is, and how often writes had to wait by then.
func begin(l []api.Req, t api.Turn) api.Turn {
	t.Gone = 1
	reads, writes := queue.Oldest(l, false) >= 0, queue.Oldest(l, true) >= 0
	switch {
	case !writes:
		t.Write = false
	case !reads || t.Starved >= api.Starve:
		t.Write, t.Starved = true, 0
	default:
		t.Write = false
		t.Starved++
	}
	return t
}

// firstOf a turn that begins: the oldest one, if it has waited too long; else the next one on the way.
func firstOf(l []api.Req, t api.Turn, now int) int {
	i := queue.Oldest(l, t.Write)
	if i >= 0 && now-l[i].Born >= patience(t.Write) {
		return i
	}
	if i := queue.From(l, t.Write, t.Where); i >= 0 {
		return i
	}
	return queue.From(l, t.Write, 0)
}

// patience: how many moments one waits till the way no longer counts.
func patience(write bool) int {
	if write {
		return api.Writes
	}
	return api.Reads
}
