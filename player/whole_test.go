package player_test

import (
	"slices"
	"strconv"
	"strings"
	"testing"

	"weighbridge/api"
	"weighbridge/script"
	"weighbridge/span"
)

// rounds: behind so many all is quiet, from wherever it was led to.
const rounds = 24

// wander: many worlds, led about; each is looked at behind each of its steps.
func wander(t *testing.T, worlds, steps int, look func(w *world)) {
	t.Helper()
	for seed := range worlds {
		w := newWorld(seed)
		for i := range steps {
			w.step()
			look(w)
			if t.Failed() {
				t.Fatalf("seed %d, step %d: %s", seed, i, seen(w.p))
			}
		}
	}
}

// readsRight: was each client that read in the last step told what was written last?
func readsRight(t *testing.T, w *world) {
	t.Helper()
	for _, a := range w.answers {
		if a.to.Word != "read" || a.told == "error 8" {
			continue
		}
		data, ok := strings.CutPrefix(a.told, "data ")
		if !ok || !slices.Contains(w.rightToRead(a.to.B), data) {
			t.Errorf("W1: %+v => %s, want one of %q", a.to, a.told, w.rightToRead(a.to.B))
		}
	}
}

// calm: nobody asks any more, and nothing goes wrong, till nobody waits. (A round's steps one by one: so is known in which order what was answered was done.)
func calm(t *testing.T, w *world) {
	t.Helper()
	for range rounds {
		if w.p.Play(script.Step{Word: "settle"}) == "0 yes" {
			return
		}
		for _, word := range []string{"tick", "clean", "dispatch", "dispatch", "end"} {
			w.play(script.Step{Word: word})
			readsRight(t, w)
		}
	}
	t.Errorf("it isn't quiet: %s", seen(w.p))
}

// readAll: each sector is read, and has what was written to it last.
func readAll(t *testing.T, w *world) {
	t.Helper()
	for at := range api.Sectors {
		w.play(script.Step{Word: "read", B: at})
		w.play(script.Step{Word: "settle", A: rounds})
		if got, want := w.got(0), "data "+w.had[at][len(w.had[at])-1]; got != want {
			t.Errorf("of sector %d: %s, want %s", at, got, want)
		}
	}
}

func TestW1WhatIsReadIsWhatWasWrittenLast(t *testing.T) {
	reads := 0
	wander(t, 300, 400, func(w *world) {
		readsRight(t, w)
		reads += len(w.answers)
	})
	if reads < 10000 {
		t.Errorf("just %d were answered", reads)
	}
}

func TestW1OfAllSectorsWhenItIsQuiet(t *testing.T) {
	for seed := range 100 {
		w := newWorld(seed)
		for range 200 {
			w.step()
		}
		calm(t, w)
		readAll(t, w)
		if t.Failed() {
			t.Fatalf("seed %d: %s", seed, seen(w.p))
		}
	}
}

func TestW2WhatWasSyncedStays(t *testing.T) {
	crashes, synced := 0, 0
	wander(t, 300, 400, func(w *world) {
		readsRight(t, w)
		if w.die.Intn(40) > 0 {
			return
		}
		crashes++
		var right [api.Sectors][]string
		for at := range right {
			right[at] = w.rightBehindACrash(at)
			synced += w.synced[at]
		}
		if told := w.crash([]int{0, 999, w.die.Intn(1000)}[w.die.Intn(3)]); told != "ok" {
			t.Errorf("crash => %s", told)
		}
		for at := range right {
			if got := w.p.Device().Peek(at); !slices.Contains(right[at], got) {
				t.Errorf("W2: sector %d has %q behind a crash, want one of %q", at, got, right[at])
			}
		}
		if w.die.Intn(5) == 0 {
			readAll(t, w)
		}
	})
	if crashes < 1000 || synced < 1000 {
		t.Errorf("just %d crashes, behind %d writes that were synced", crashes, synced)
	}
}

func TestW3ItAlwaysGoesOn(t *testing.T) {
	waited := 0
	for seed := range 1500 {
		w := newWorld(seed)
		for range seed % 200 {
			w.step()
		}
		for c := range api.Clients {
			if w.got(c) == "waits" {
				waited++
			}
		}
		told := w.p.Play(script.Step{Word: "settle", A: rounds})
		if _, quiet, _ := strings.Cut(told, " "); quiet != "yes" {
			t.Fatalf("seed %d: settle => %s: %s", seed, told, seen(w.p))
		}
		for c := range api.Clients {
			if told := w.got(c); told == "waits" {
				t.Fatalf("seed %d: client %d waits for ever", seed, c)
			}
		}
	}
	if waited < 500 {
		t.Errorf("just %d waited", waited)
	}
}

// spans of the requests that a step tells.
func spans(t *testing.T, w *world, word string) (out []api.Span) {
	t.Helper()
	told := w.p.Play(script.Step{Word: word})
	if told == "-" {
		return nil
	}
	for _, text := range strings.Split(told, " ") {
		where, tags, _ := strings.Cut(text[1:], "#")
		from, many, _ := strings.Cut(where, "+")
		f, err := strconv.Atoi(from)
		m, err2 := strconv.Atoi(many)
		if err != nil || err2 != nil || strings.Count(tags, ",") != m-1 || span.Check(api.Span{From: f, Many: m}, api.MaxMerge) != nil {
			t.Errorf("%s => %s", word, told)
		}
		out = append(out, api.Span{From: f, Many: m})
	}
	return out
}

func TestW4OneAtATime(t *testing.T) {
	var dirty, waiting, busy int // as many as there ever were
	wander(t, 200, 400, func(w *world) {
		l, m := spans(t, w, "queue"), spans(t, w, "busy")
		all := slices.Concat(l, m)
		for i, a := range all {
			if slices.ContainsFunc(all[:i], func(b api.Span) bool { return span.Meet(a, b) }) {
				t.Errorf("W4: of a sector there are two requests: %v", all)
			}
		}
		n, err := strconv.Atoi(w.p.Play(script.Step{Word: "dirty"}))
		if err != nil {
			t.Error(err)
		}
		dirty, waiting, busy = max(dirty, n), max(waiting, len(l)), max(busy, len(m))
	})
	if dirty != api.Hard || waiting != api.Depth || busy != api.Slots {
		t.Errorf("W4: up to %d dirty, %d waiting, %d at the disk, want %d, %d, %d", dirty, waiting, busy, api.Hard, api.Depth, api.Slots)
	}
}

func TestW5OnceItIsDead(t *testing.T) {
	deaths := 0
	for seed := range 200 {
		w := newWorld(seed)
		w.faults = 60
		dead := false
		for range 300 {
			w.step()
			readsRight(t, w)
			for _, a := range w.answers {
				if a.to.Word == "read" {
					continue
				}
				if dead = dead || a.told == "error 9"; dead != (a.told == "error 9") {
					t.Errorf("W5: it was dead, and %+v => %s", a.to, a.told)
				}
			}
		}
		calm(t, w)
		if dead {
			deaths++
			readAll(t, w)
		}
		if t.Failed() {
			t.Fatalf("seed %d: %s", seed, seen(w.p))
		}
	}
	if deaths < 100 {
		t.Errorf("just %d died", deaths)
	}
}

func contents(w *world) (out [api.Sectors]string) {
	for at := range out {
		out[at] = w.p.Device().Peek(at)
	}
	return out
}

// TestW6InWhichOrderTheDiskEnds: what it has, the first or the last one first, changes neither what the disk has nor what is read.
func TestW6InWhichOrderTheDiskEnds(t *testing.T) {
	compared := 0
	for seed := range 1500 {
		a, b := newWorld(seed), newWorld(seed)
		for range 20 + seed%150 {
			a.step()
			b.step()
		}
		if len(spans(t, a, "busy")) != api.Slots {
			continue
		}
		compared++
		for i := range api.Slots {
			a.play(script.Step{Word: "end"})
			readsRight(t, a)
			b.play(script.Step{Word: "end", A: api.Slots - 1 - i})
			readsRight(t, b)
		}
		if contents(a) != contents(b) {
			t.Errorf("%q, want %q", contents(a), contents(b))
		}
		for _, w := range []*world{a, b} {
			calm(t, w)
			readAll(t, w)
		}
		if t.Failed() {
			t.Fatalf("seed %d: %s; %s", seed, seen(a.p), seen(b.p))
		}
	}
	if compared < 200 {
		t.Errorf("just %d were compared", compared)
	}
}

// TestW6WhatGoesTogether: is answered as each would be.
func TestW6WhatGoesTogether(t *testing.T) {
	one, each := newWorld(0), newWorld(0)
	for _, w := range []*world{one, each} {
		for c := range api.Clients {
			dialogue(t, w.p, "write "+strconv.Itoa(c)+" "+strconv.Itoa(10+c)+" new"+strconv.Itoa(c)+" => ok")
		}
	}
	dialogue(t, one.p, `sync 0 => ok
		clean => yes
		clean => yes
		clean => yes
		queue => w10+3#1,2,3
		dispatch => yes
		end 0 => ok
		got 0 => data `)
	dialogue(t, each.p, `sync 0 => ok
		settle 9 => 3 yes
		got 0 => data `)
	if contents(one) != contents(each) || contents(one)[12] != "new2" {
		t.Errorf("%q, want %q", contents(one), contents(each))
	}
	for _, w := range []*world{one, each} {
		dialogue(t, w.p, "crash 0 => ok\nread 0 10 => ok")
	}
	dialogue(t, one.p, `read 1 11 => ok
		read 2 12 => ok
		queue => r10+3#1,2,3
		settle 9 => 1 yes`)
	dialogue(t, each.p, `settle 9 => 1 yes
		read 1 11 => ok
		settle 9 => 1 yes
		read 2 12 => ok
		settle 9 => 1 yes`)
	for c := range api.Clients {
		if got, want := one.got(c), "data new"+strconv.Itoa(c); got != want || each.got(c) != want {
			t.Errorf("client %d: %s, each by itself %s, want %s", c, got, each.got(c), want)
		}
	}
}
