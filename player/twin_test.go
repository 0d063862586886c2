package player_test

import (
	"strconv"
	"strings"
	"testing"

	"weighbridge/api"
	"weighbridge/device"
	"weighbridge/pump"
	"weighbridge/request"
	"weighbridge/script"
	"weighbridge/stack"
)

// twin: a stack to which the same is done as steps ought to do, by plain calls.
type twin struct {
	d *device.Device
	s *stack.Stack
}

func (k *twin) do(x script.Step) string {
	switch x.Word {
	case "read":
		return how(k.s.Ask(x.A, api.Read, x.B, ""))
	case "write":
		return how(k.s.Ask(x.A, api.Write, x.B, x.Data))
	case "sync":
		return how(k.s.Ask(x.A, api.Sync, 0, ""))
	case "got":
		return k.got(x.A)
	case "tick":
		k.s.Tick()
	case "round":
		pump.Round(k.s)
	case "clean":
		return yes(k.s.Clean())
	case "dispatch":
		return yes(k.s.Dispatch())
	case "end":
		return how(k.s.End(x.A, false))
	case "fault":
		return how(k.s.End(x.A, true))
	case "settle":
		n, ok := pump.Settle(k.s, x.A)
		return strconv.Itoa(n) + " " + yes(ok)
	case "queue":
		return texts(k.s.Queue())
	case "busy":
		return texts(k.d.Busy())
	case "dirty":
		return strconv.Itoa(k.s.Dirty())
	case "crash":
		k.d.Crash(uint64(x.A))
		k.s = stack.New(k.d)
	}
	return "ok"
}

func (k *twin) got(client int) string {
	if client >= api.Clients {
		return "error 5"
	}
	if k.s.Waits(client) {
		return "waits"
	}
	data, err := k.s.Got(client)
	if err != nil {
		return how(err)
	}
	return "data " + data
}

func how(err error) string {
	if err == nil {
		return "ok"
	}
	return "error " + strconv.Itoa(int(err.(api.Errno)))
}

func yes(ok bool) string {
	if ok {
		return "yes"
	}
	return "no"
}

func texts(l []api.Req) string {
	var out []string
	for _, r := range l {
		out = append(out, request.Text(r, strconv.Itoa))
	}
	if out == nil {
		return "-"
	}
	return strings.Join(out, " ")
}

// others: steps of which a world draws none.
func (w *world) others() script.Step {
	x := script.Step{Word: []string{"got", "got", "round", "settle", "queue", "busy", "dirty", "crash", "read", "write", "sync", "end", "fault"}[w.die.Intn(13)]}
	switch x.Word {
	case "crash":
		x.A = w.die.Intn(1000)
	case "got", "settle", "sync", "end", "fault":
		x.A = w.die.Intn(5)
	case "read", "write":
		x.A, x.B = w.die.Intn(5), w.die.Intn(2*api.Sectors)
	}
	if x.Word == "write" {
		x.Data = "123456789"[:w.die.Intn(10)]
	}
	return x
}

// TestK2AsByPlainCalls: each step, from wherever others led to, does and answers what the calls do that the document names for it.
func TestK2AsByPlainCalls(t *testing.T) {
	answers := map[string]int{}
	for seed := range 300 {
		w := newWorld(seed)
		d := device.New()
		k := &twin{d, stack.New(d)}
		for range 300 {
			x := w.draw()
			if w.die.Intn(3) == 0 {
				x = w.others()
			}
			got, want := w.p.Play(x), k.do(x)
			if got != want {
				t.Fatalf("seed %d: %+v => %s, want %s", seed, x, got, want)
			}
			kind, _, _ := strings.Cut(got, " ")
			answers[x.Word+" "+kind]++
		}
	}
	for _, a := range []string{"read ok", "read error", "write ok", "write error", "sync ok", "sync error", "got data", "got waits", "got error", "clean yes", "clean no", "dispatch yes", "dispatch no", "end ok", "end error", "fault ok", "fault error", "queue -", "busy -"} {
		if answers[a] < 10 {
			t.Errorf("%s: just %d times", a, answers[a])
		}
	}
}
