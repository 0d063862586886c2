package pump_test

import (
	"slices"
	"testing"

	"weighbridge/api"
	"weighbridge/device"
	"weighbridge/pump"
	"weighbridge/queue"
	"weighbridge/request"
	"weighbridge/span"
	"weighbridge/stack"
)

// rounds: behind so many all is quiet, from wherever it was led to.
const rounds = 24

// wander: many worlds, led about; each is looked at behind each of its steps.
func wander(t *testing.T, worlds, steps int, look func(t *testing.T, w *world)) {
	t.Helper()
	for seed := range worlds {
		w := newWorld(seed)
		for i := range steps {
			w.step()
			look(t, w)
			if t.Failed() {
				t.Fatalf("seed %d, step %d: %s", seed, i, seen(w.s))
			}
		}
	}
}

// readsRight: was each client that read in the last step answered what was written last?
func readsRight(t *testing.T, w *world) {
	t.Helper()
	for _, a := range w.answers {
		if a.kind == api.Read && a.err == nil && !slices.Contains(w.rightToRead(a.at), a.got) {
			t.Errorf("W1: %q is read of %d, want one of %q", a.got, a.at, w.rightToRead(a.at))
		}
	}
}

// reads: one reads a sector, and all goes on without a fault till it is answered.
func reads(t *testing.T, w *world, at int) {
	t.Helper()
	w.note(func() { w.askFor(0, wish{kind: api.Read, at: at}) })
	for i := 0; w.s.Waits(0) && i < rounds; i++ {
		pump.Round(w.s)
	}
	if got, err := w.s.Got(0); w.s.Waits(0) || err != nil || got != w.had[at][len(w.had[at])-1] {
		t.Errorf("%q is read of %d, %v, waits %v; was written last: %q", got, at, err, w.s.Waits(0), w.had[at])
	}
}

// calm: nobody asks any more, and nothing goes wrong, till it is quiet.
func calm(t *testing.T, w *world) {
	t.Helper()
	for range rounds {
		if pump.Quiet(w.s) {
			return
		}
		// Part by part: so is known in which order what was answered was done.
		w.note(w.s.Tick)
		readsRight(t, w)
		w.s.Clean()
		for w.s.Dispatch() {
		}
		w.note(func() { w.s.End(0, false) })
		readsRight(t, w)
	}
	t.Errorf("it isn't quiet: %s", seen(w.s))
}

func TestW1WhatIsReadIsWhatWasWrittenLast(t *testing.T) {
	wander(t, 400, 400, readsRight)
}

func TestW1OfAllSectorsWhenItIsQuiet(t *testing.T) {
	for seed := range 100 {
		w := newWorld(seed)
		for range 200 {
			w.step()
		}
		calm(t, w)
		for at := range api.Sectors {
			reads(t, w, at)
		}
		if t.Failed() {
			t.Fatalf("seed %d", seed)
		}
	}
}

// crashesRight: is behind a crash each sector as it may be?
func crashesRight(t *testing.T, w *world, keep uint64) {
	t.Helper()
	var right [api.Sectors][]string
	for at := range right {
		right[at] = w.rightBehindACrash(at)
	}
	w.crash(keep)
	for at := range right {
		if got := w.d.Peek(at); !slices.Contains(right[at], got) {
			t.Errorf("W2: sector %d has %q behind a crash, want one of %q", at, got, right[at])
		}
	}
}

func TestW2WhatWasSyncedStays(t *testing.T) {
	crashes := 0
	wander(t, 400, 400, func(t *testing.T, w *world) {
		readsRight(t, w)
		if w.die.Intn(40) > 0 {
			return
		}
		crashes++
		crashesRight(t, w, []uint64{0, ^uint64(0), w.die.Uint64()}[w.die.Intn(3)])
	})
	if crashes < 1000 {
		t.Errorf("just %d crashes", crashes)
	}
}

func TestW2AtEachMoment(t *testing.T) {
	const steps = 120
	for at := range steps {
		for seed := range 12 {
			for _, keep := range []uint64{0, ^uint64(0), 0x5555555555555555} {
				w := newWorld(seed)
				for range at {
					w.step()
				}
				crashesRight(t, w, keep)
				if t.Failed() {
					t.Fatalf("seed %d, moment %d", seed, at)
				}
			}
		}
	}
}

func TestW3ItAlwaysGoesOn(t *testing.T) {
	for seed := range 2000 {
		w := newWorld(seed)
		for range seed % 200 {
			w.step()
		}
		before := seen(w.s)
		n, ok := pump.Settle(w.s, rounds)
		if !ok {
			t.Fatalf("seed %d: behind %d rounds it isn't quiet: %s; it was led to %s", seed, n, seen(w.s), before)
		}
		for c := range api.Clients {
			if w.s.Waits(c) {
				t.Fatalf("seed %d: client %d waits for ever", seed, c)
			}
		}
	}
}

// TestW3NobodyWaitsForEver: also while the others ask and ask.
func TestW3NobodyWaitsForEver(t *testing.T) {
	for _, x := range []wish{{api.Read, 30, ""}, {api.Write, 30, "a"}, {api.Sync, 0, ""}} {
		for c := range api.Clients {
			for _, others := range []int{api.Read, api.Write} {
				s := stack.New(device.New())
				fill(t, s, api.Hard)
				ask(t, s, c, x.kind, x.at, x.data)
				n := 0
				for ; s.Waits(c) && n < 2*rounds; n++ {
					for o := range api.Clients {
						if o != c && !s.Waits(o) {
							ask(t, s, o, others, (7*n+5*o)%28, "")
						}
					}
					pump.Round(s)
				}
				if s.Waits(c) {
					t.Errorf("%v of client %d waits behind %d rounds: %s", x, c, n, seen(s))
				}
			}
		}
	}
}

func TestW4OneAtATime(t *testing.T) {
	var dirty, waiting, busy int // as many as there ever were
	wander(t, 400, 400, func(t *testing.T, w *world) {
		all := append(w.s.Queue(), w.s.Busy()...)
		for i, a := range all {
			if err := request.Check(a); err != nil {
				t.Errorf("%v may not be: %v", a, err)
			}
			for _, b := range all[:i] {
				if span.Meet(a.Span, b.Span) {
					t.Errorf("W4: of a sector there are two requests: %v, %v", a, b)
				}
			}
		}
		dirty = max(dirty, w.s.Dirty())
		waiting = max(waiting, len(w.s.Queue()))
		busy = max(busy, len(w.s.Busy()))
	})
	if dirty != api.Hard || waiting != api.Depth || busy != api.Slots {
		t.Errorf("W4: up to %d dirty, %d waiting, %d at the disk, want %d, %d, %d", dirty, waiting, busy, api.Hard, api.Depth, api.Slots)
	}
}

func TestW5OnceItIsDead(t *testing.T) {
	deaths := 0
	for seed := range 300 {
		w := newWorld(seed)
		w.faults = 60
		dead := false
		for range 300 {
			w.step()
			readsRight(t, w)
			for _, a := range w.answers {
				if a.kind != api.Read && (a.err == api.ErrDead) != w.s.Dead() {
					t.Errorf("W5: dead %v, and %v is answered %v", w.s.Dead(), a.wish, a.err)
				}
			}
			if dead && !w.s.Dead() {
				t.Error("W5: it was dead, and is so no more")
			}
			dead = w.s.Dead()
		}
		calm(t, w)
		if dead {
			deaths++
			for at := range api.Sectors {
				reads(t, w, at)
			}
		}
		if t.Failed() {
			t.Fatalf("seed %d: %s", seed, seen(w.s))
		}
	}
	if deaths < 100 {
		t.Errorf("just %d died", deaths)
	}
}

func TestW5NoWriteIsLostByADeath(t *testing.T) {
	s := stack.New(device.New())
	fill(t, s, api.Soft)
	s.Clean()
	s.Dispatch()
	for range api.Tries {
		s.End(0, true)
	}
	if !s.Dead() {
		t.Fatal("it isn't dead")
	}
	for _, kind := range []int{api.Write, api.Sync} {
		ask(t, s, 0, kind, 0, "")
		if _, err := s.Got(0); s.Waits(0) || err != api.ErrDead {
			t.Errorf("%d is answered %v", kind, err)
		}
	}
	for i := range 20 { // so that others want room
		ask(t, s, 1, api.Read, 10+i, "")
		pump.Settle(s, rounds)
	}
	for i := range api.Soft {
		ask(t, s, 2, api.Read, 2*i, "")
		if got, err := s.Got(2); s.Waits(2) || err != nil || got != "a" {
			t.Errorf("%q is read of %d, %v", got, 2*i, err)
		}
	}
}

// disk with something in each sector.
func disk(t *testing.T) *device.Device {
	t.Helper()
	d := device.New()
	for at := range api.Sectors {
		d.Start(api.Req{Write: true, Span: api.Span{From: at, Many: 1}, Data: []string{string(rune('A' + at))}, Tags: []int{1}})
		d.End(0, false)
	}
	return d
}

func contents(d *device.Device) (out [api.Sectors]string) {
	for at := range out {
		out[at] = d.Peek(at)
	}
	return out
}

// parts: requests of sectors that are next to each other, one of each.
func parts(write bool, from, many int) (out []api.Req) {
	for i := range many {
		r := api.Req{Write: write, Span: api.Span{From: from + i, Many: 1}, Tags: []int{i + 1}}
		if write {
			r.Data = []string{"new" + string(rune('0'+i))}
		}
		out = append(out, r)
	}
	return out
}

// TestW6WhatGoesTogether: is done as each would be, by the disk.
func TestW6WhatGoesTogether(t *testing.T) {
	for _, write := range []bool{false, true} {
		for many := 2; many <= api.MaxMerge; many++ {
			one, each := disk(t), disk(t)
			var l []api.Req
			for _, r := range parts(write, 10, many) {
				l, _ = queue.Add(l, r)
			}
			if len(l) != 1 {
				t.Fatalf("they don't go together: %v", l)
			}
			one.Start(l[0])
			all, _ := one.End(0, false)
			for _, r := range parts(write, 10, many) {
				each.Start(r)
				got, _ := each.End(0, false)
				a, ok := request.Part(all, r.Span.From)
				b, okToo := request.Part(got, r.Span.From)
				if a != b || ok != okToo || ok == write {
					t.Errorf("of %d: %q, %v, want %q, %v", r.Span.From, a, ok, b, okToo)
				}
			}
			if contents(one) != contents(each) {
				t.Errorf("%q, want %q", contents(one), contents(each))
			}
		}
	}
}

// TestW6WhoGoesTogether: is answered as each would be, by the stack.
func TestW6WhoGoesTogether(t *testing.T) {
	d := disk(t)
	one, each := stack.New(d), stack.New(d)
	for c := range api.Clients {
		ask(t, one, c, api.Read, 10+c, "")
		ask(t, each, c, api.Read, 10+c, "")
		pump.Settle(each, rounds)
	}
	if len(one.Queue()) != 1 {
		t.Fatalf("they don't go together: %v", one.Queue())
	}
	if n, ok := pump.Settle(one, rounds); n != 1 || !ok {
		t.Errorf("%d rounds, %v", n, ok)
	}
	if seen(one) != seen(each) {
		t.Errorf("%s, want %s", seen(one), seen(each))
	}
}

// TestW6InWhichOrderTheDiskEnds: what it has, the first or the last one first, changes neither what the disk has, nor what is answered, nor what is read.
func TestW6InWhichOrderTheDiskEnds(t *testing.T) {
	compared := 0
	for seed := range 1500 {
		a, b := newWorld(seed), newWorld(seed)
		for range 20 + seed%150 {
			a.step()
			b.step()
		}
		if len(a.s.Busy()) != api.Slots {
			continue
		}
		compared++
		for _, i := range []int{0, 0} {
			a.note(func() { a.s.End(i, false) })
			readsRight(t, a)
		}
		for _, i := range []int{1, 0} {
			b.note(func() { b.s.End(i, false) })
			readsRight(t, b)
		}
		if contents(a.d) != contents(b.d) || a.s.Dirty() != b.s.Dirty() {
			t.Errorf("%q and %s, want %q and %s", contents(a.d), seen(a.s), contents(b.d), seen(b.s))
		}
		calm(t, a)
		calm(t, b)
		for at := range api.Sectors {
			reads(t, a, at)
			reads(t, b, at)
		}
		if t.Failed() {
			t.Fatalf("seed %d", seed)
		}
	}
	if compared < 200 {
		t.Errorf("just %d were compared", compared)
	}
}
