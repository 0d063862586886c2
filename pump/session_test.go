package pump_test

import (
	"strconv"
	"strings"
	"testing"

	"weighbridge/api"
	"weighbridge/device"
	"weighbridge/pump"
	"weighbridge/request"
	"weighbridge/stack"
)

// session: the document's example, as far as it is of the stack.
const session = `read 0 3 => ok
queue => r3+1#1
dispatch => yes
busy => r3+1#1
end 0 => ok
got 0 => data 
write 0 3 hay => ok
write 1 4 oats => ok
dirty => 2
got 1 => data 
read 2 3 => ok
got 2 => data hay
sync 0 => ok
got 0 => waits
clean => yes
clean => yes
queue => w3+2#3,2
dispatch => yes
busy => w3+2#3,2
fault 0 => ok
busy => w3+2#3,2
end 0 => ok
got 0 => data 
dirty => 0
write 1 7 a => ok
write 1 8 b => ok
write 2 9 c => ok
write 1 1 d => ok
write 2 2 e => ok
write 1 5 f => ok
write 2 6 g => ok
got 2 => waits
clean => yes
clean => yes
clean => yes
queue => w7+3#4,5,6
settle 20 => 4 yes
got 2 => data 
dirty => 1
read 0 20 => ok
read 1 21 => ok
read 2 22 => ok
queue => r20+3#10,11,12
dispatch => yes
busy => r20+3#10,11,12
tick => ok
end 0 => ok
got 0 => data 
got 1 => data 
write 0 3 straw => error 1
crash 1 => ok
got 0 => data 
read 0 3 => ok
settle 9 => 1 yes
got 0 => data hay
write 0 3 bran => ok
sync 0 => ok
clean => yes
dispatch => yes
fault 0 => ok
fault 0 => ok
fault 0 => ok
got 0 => error 9
write 0 3 x => ok
got 0 => error 9
read 0 3 => ok
got 0 => data bran
write 5 1 x => error 3`

// desk: where the session's lines are done.
type desk struct {
	d *device.Device
	s *stack.Stack
}

func (k *desk) do(line string) string {
	words := append(strings.Fields(line), "", "", "")
	a, _ := strconv.Atoi(words[1])
	b, _ := strconv.Atoi(words[2])
	switch words[0] {
	case "read":
		return how(k.s.Ask(a, api.Read, b, ""))
	case "write":
		return how(k.s.Ask(a, api.Write, b, words[3]))
	case "sync":
		return how(k.s.Ask(a, api.Sync, 0, ""))
	case "got":
		return k.got(a)
	case "tick":
		k.s.Tick()
	case "clean":
		return yes(k.s.Clean())
	case "dispatch":
		return yes(k.s.Dispatch())
	case "end", "fault":
		return how(k.s.End(a, words[0] == "fault"))
	case "settle":
		n, ok := pump.Settle(k.s, a)
		return strconv.Itoa(n) + " " + yes(ok)
	case "queue":
		return texts(k.s.Queue())
	case "busy":
		return texts(k.s.Busy())
	case "dirty":
		return strconv.Itoa(k.s.Dirty())
	case "crash":
		k.d.Crash(uint64(a))
		k.s = stack.New(k.d)
	}
	return "ok"
}

func (k *desk) got(client int) string {
	if k.s.Waits(client) {
		return "waits"
	}
	data, err := k.s.Got(client)
	if err != nil {
		return how(err)
	}
	return "data " + data
}

func how(err error) string {
	if err == nil {
		return "ok"
	}
	return "error " + strconv.Itoa(int(err.(api.Errno)))
}

func yes(ok bool) string {
	if ok {
		return "yes"
	}
	return "no"
}

func texts(l []api.Req) string {
	var out []string
	for _, r := range l {
		out = append(out, request.Text(r, strconv.Itoa))
	}
	return strings.Join(out, " ")
}

func TestW1TheDocumentsSession(t *testing.T) {
	d := device.New()
	k := &desk{d, stack.New(d)}
	for i, line := range strings.Split(session, "\n") {
		step, want, _ := strings.Cut(line, " => ")
		if got := k.do(step); got != want {
			t.Errorf("line %d: %s => %s, want %s", i+1, step, got, want)
		}
	}
}
