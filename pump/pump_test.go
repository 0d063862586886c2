package pump_test

import (
	"fmt"
	"math"
	"strings"
	"testing"

	"weighbridge/api"
	"weighbridge/device"
	"weighbridge/pump"
	"weighbridge/stack"
)

// seen: all that is to be seen of a stack.
func seen(s *stack.Stack) string {
	var b strings.Builder
	for c := range api.Clients {
		data, err := s.Got(c)
		fmt.Fprintf(&b, "%d: %v %q %v; ", c, s.Waits(c), data, err)
	}
	fmt.Fprintf(&b, "dirty %d, dead %v, queue %v, busy %v", s.Dirty(), s.Dead(), s.Queue(), s.Busy())
	return b.String()
}

func ask(t *testing.T, s *stack.Stack, client, kind, at int, data string) {
	t.Helper()
	if err := s.Ask(client, kind, at, data); err != nil {
		t.Fatalf("Ask(%d, %d, %d, %q): %v", client, kind, at, data, err)
	}
}

func quiet(t *testing.T, s *stack.Stack, want bool) {
	t.Helper()
	if got := pump.Quiet(s); got != want {
		t.Errorf("quiet: %v, want %v: %s", got, want, seen(s))
	}
}

// fill: so many sectors that aren't next to each other are dirty.
func fill(t *testing.T, s *stack.Stack, many int) {
	t.Helper()
	for i := range many {
		ask(t, s, 0, api.Write, 2*i, "a")
	}
}

func TestI1Quiet(t *testing.T) {
	s := stack.New(device.New())
	quiet(t, s, true)
	ask(t, s, 0, api.Write, 3, "a")
	quiet(t, s, true) // what is dirty doesn't count
}

func TestI1NotQuietWhileAClientWaits(t *testing.T) {
	for c := range api.Clients {
		s := stack.New(device.New())
		fill(t, s, api.Hard)
		ask(t, s, c, api.Write, 20, "b")
		if len(s.Queue())+len(s.Busy()) > 0 || !s.Waits(c) {
			t.Fatalf("not just a client: %s", seen(s))
		}
		quiet(t, s, false)
	}
}

func TestI1NotQuietWhileARequestWaits(t *testing.T) {
	s := stack.New(device.New())
	fill(t, s, api.Soft)
	if !s.Clean() {
		t.Fatal("nothing is written")
	}
	quiet(t, s, false)
	s.Dispatch()
	quiet(t, s, false) // the disk has it
	s.End(0, true)
	quiet(t, s, false) // and has it again
	s.End(0, false)
	quiet(t, s, true)
}

func TestI1Round(t *testing.T) {
	s := stack.New(device.New())
	pump.Round(s)
	quiet(t, s, true)
	fill(t, s, 5)
	ask(t, s, 0, api.Read, 20, "")
	ask(t, s, 1, api.Read, 22, "")
	ask(t, s, 2, api.Read, 24, "")
	s.Clean()
	s.Clean()
	pump.Round(s) // a third one is to be written; the disk has two, and ends the first one
	if len(s.Queue()) != 4 || len(s.Busy()) != 1 || s.Waits(0) || !s.Waits(1) || !s.Waits(2) {
		t.Errorf("behind a round: %s", seen(s))
	}
	if got := s.Queue()[3]; got.Born != 2 || got.Span.From != 4 {
		t.Errorf("asked in the round: %v, want at the moment 2", got)
	}
}

// TestI1RoundIsItsParts: over many states, a round is just what its parts are, one by one.
func TestI1RoundIsItsParts(t *testing.T) {
	for seed := range 300 {
		a, b := newWorld(seed), newWorld(seed)
		for range 60 {
			a.step()
			b.step()
		}
		pump.Round(a.s)
		b.s.Tick()
		b.s.Clean()
		for b.s.Dispatch() {
		}
		b.s.End(0, false)
		if seen(a.s) != seen(b.s) {
			t.Fatalf("seed %d: %s, want %s", seed, seen(a.s), seen(b.s))
		}
	}
}

func TestI2Settle(t *testing.T) {
	for _, c := range []struct {
		most, want int
		quiet      bool
	}{
		{math.MinInt, 0, false}, {-1, 0, false}, {0, 0, false},
		{1, 1, false}, {2, 2, false}, {3, 3, true}, {4, 3, true}, {math.MaxInt, 3, true},
	} {
		s := stack.New(device.New())
		ask(t, s, 0, api.Read, 3, "")
		ask(t, s, 1, api.Read, 9, "")
		ask(t, s, 2, api.Read, 20, "")
		n, ok := pump.Settle(s, c.most)
		if n != c.want || ok != c.quiet || pump.Quiet(s) != ok {
			t.Errorf("Settle(%d) = %d, %v, want %d, %v", c.most, n, ok, c.want, c.quiet)
		}
	}
}

func TestI2SettleOfAQuietOne(t *testing.T) {
	for _, most := range []int{math.MinInt, -1, 0, 1, math.MaxInt} {
		s := stack.New(device.New())
		fill(t, s, api.Hard)
		before := seen(s)
		if n, ok := pump.Settle(s, most); n != 0 || !ok || seen(s) != before {
			t.Errorf("Settle(%d) = %d, %v, %s", most, n, ok, seen(s))
		}
	}
}

func TestZ1EveryCallEnds(t *testing.T) {
	for seed := range 100 {
		w := newWorld(seed)
		for range seed {
			w.step()
		}
		if _, ok := pump.Settle(w.s, math.MaxInt); !ok {
			t.Fatalf("seed %d: it isn't quiet", seed)
		}
	}
	// Requests that may not be, which somebody else gave the disk.
	d := device.New()
	d.Start(api.Req{Span: api.Span{From: 30, Many: math.MaxInt}})
	d.Start(api.Req{Write: true, Span: api.Span{From: -5, Many: 9}})
	s := stack.New(d)
	ask(t, s, 0, api.Read, 31, "")
	if n, ok := pump.Settle(s, math.MaxInt); !ok {
		t.Errorf("Settle = %d, %v", n, ok)
	}
}

func TestZ2TheSameStepsAnswerTheSame(t *testing.T) {
	a, b := newWorld(7), newWorld(7)
	for i := range 500 {
		a.step()
		b.step()
		if seen(a.s) != seen(b.s) {
			t.Fatalf("step %d: %s, and then %s", i, seen(a.s), seen(b.s))
		}
	}
}
