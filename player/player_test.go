package player_test

import (
	"fmt"
	"math"
	"strconv"
	"strings"
	"testing"

	"weighbridge/api"
	"weighbridge/player"
	"weighbridge/script"
)

// say a step by its text: what is answered.
func say(t *testing.T, p *player.Player, text string) string {
	t.Helper()
	x, err := script.Parse(text)
	if err != nil {
		t.Fatalf("Parse(%q): %v", text, err)
	}
	return p.Play(x)
}

// dialogue: each line a step's text, and what must be answered to it.
func dialogue(t *testing.T, p *player.Player, lines string) {
	t.Helper()
	for i, line := range strings.Split(lines, "\n") {
		text, want, ok := strings.Cut(strings.TrimLeft(line, "\t"), " => ")
		if !ok {
			t.Fatalf("line %d: %q", i, line)
		}
		if got := say(t, p, text); got != want {
			t.Fatalf("line %d: %s => %s, want %s", i, text, got, want)
		}
	}
}

// seen: all that is to be seen of a player.
func seen(p *player.Player) string {
	var b strings.Builder
	s, d := p.Stack(), p.Device()
	for c := range api.Clients {
		data, err := s.Got(c)
		fmt.Fprintf(&b, "%d: %v %q %v; ", c, s.Waits(c), data, err)
	}
	fmt.Fprintf(&b, "dirty %d, dead %v, queue %v, busy %v, disk", s.Dirty(), s.Dead(), s.Queue(), d.Busy())
	for at := range api.Sectors {
		fmt.Fprintf(&b, " %q", d.Peek(at))
	}
	return b.String()
}

func TestK1New(t *testing.T) {
	p := player.New()
	s, d := p.Stack(), p.Device()
	if s == nil || d == nil || p.Stack() != s || p.Device() != d {
		t.Fatalf("%p, %p, then %p, %p", s, d, p.Stack(), p.Device())
	}
	if s.Dirty() != 0 || s.Dead() || len(s.Queue()) != 0 || len(s.Busy()) != 0 || len(d.Busy()) != 0 {
		t.Errorf("it isn't new: %s", seen(p))
	}
	for c := range api.Clients {
		if data, err := s.Got(c); s.Waits(c) || data != "" || err != nil {
			t.Errorf("client %d: %v, %q, %v", c, s.Waits(c), data, err)
		}
	}
	for at := range api.Sectors {
		if d.Peek(at) != "" {
			t.Errorf("sector %d has %q", at, d.Peek(at))
		}
	}
}

func TestK1TheStackIsOverTheDevice(t *testing.T) {
	p := player.New()
	dialogue(t, p, `read 0 3 => ok
		dispatch => yes`)
	if l := p.Device().Busy(); len(l) != 1 || l[0].Span.From != 3 {
		t.Errorf("the device has %v", l)
	}
	if l := p.Stack().Busy(); len(l) != 1 {
		t.Errorf("the stack's has %v", l)
	}
}

// TestK1TheyAreWhatIsPlayedOn: what is done to them is seen by steps.
func TestK1TheyAreWhatIsPlayedOn(t *testing.T) {
	p := player.New()
	if err := p.Stack().Ask(1, api.Write, 5, "hay"); err != nil {
		t.Fatal(err)
	}
	dialogue(t, p, `dirty => 1
		read 0 5 => ok
		got 0 => data hay
		busy => -`)
	if err := p.Device().Start(api.Req{Span: api.Span{From: 7, Many: 2}, Tags: []int{50}}); err != nil {
		t.Fatal(err)
	}
	dialogue(t, p, `busy => r7+2#50
		end 0 => ok
		busy => -`)
}

func TestK2Read(t *testing.T) {
	dialogue(t, player.New(), `read 0 0 => ok
		queue => r0+1#1
		got 0 => waits
		got 1 => data 
		read 0 0 => error 6
		read 0 9 => error 6
		read 2 31 => ok
		queue => r0+1#1 r31+1#2
		read 1 32 => error 1
		read 1 999 => error 1
		read 3 1 => error 3
		read 999 1 => error 3
		read 3 32 => error 3
		queue => r0+1#1 r31+1#2`)
}

func TestK2Write(t *testing.T) {
	p := player.New()
	dialogue(t, p, `write 0 3 hay => ok
		write 1 31 - => ok
		got 0 => data 
		dirty => 2
		queue => -
		write 0 3 12345 => error 1
		write 0 3 123456789 => error 1
		write 0 32 a => error 1
		write 3 3 a => error 3
		write 3 32 12345 => error 3
		dirty => 2
		read 2 3 => ok
		got 2 => data hay
		read 2 31 => ok
		got 2 => data 
		write 2 3 1234 => ok
		dirty => 2
		read 0 3 => ok
		got 0 => data 1234
		write 0 3 - => ok
		read 0 3 => ok
		got 0 => data 
		read 1 20 => ok
		write 1 3 a => error 6`)
}

func TestK2Sync(t *testing.T) {
	p := player.New()
	dialogue(t, p, `sync 0 => ok
		got 0 => data 
		sync 3 => error 3
		sync 999 => error 3
		write 0 3 hay => ok
		sync 1 => ok
		got 1 => waits
		sync 1 => error 6
		clean => yes
		dispatch => yes
		got 1 => waits
		end 0 => ok
		got 1 => data 
		write 0 4 oats => ok
		crash 0 => ok`)
	if got := p.Device().Peek(3); got != "hay" {
		t.Errorf("what was synced doesn't stay: %q", got)
	}
}

func TestK2Got(t *testing.T) {
	dialogue(t, player.New(), `got 0 => data 
		got 1 => data 
		got 2 => data 
		got 3 => error 5
		got 4 => error 5
		got 999 => error 5
		write 2 7 ab-c => ok
		read 1 7 => ok
		got 1 => data ab-c
		got 1 => data ab-c
		read 1 8 => ok
		got 1 => waits
		dispatch => yes
		fault 0 => ok
		fault 0 => ok
		got 1 => waits
		fault 0 => ok
		got 1 => error 8
		got 1 => error 8
		read 1 7 => ok
		got 1 => data ab-c`)
}

func TestK2Tick(t *testing.T) {
	p := player.New()
	dialogue(t, p, `tick => ok
		tick => ok
		read 0 3 => ok
		tick => ok
		read 1 9 => ok
		queue => r3+1#1 r9+1#2
		busy => -`)
	if l := p.Stack().Queue(); l[0].Born != 2 || l[1].Born != 3 {
		t.Errorf("they were born at %d, %d, want 2, 3", l[0].Born, l[1].Born)
	}
}

func TestK2Round(t *testing.T) {
	p := player.New()
	dialogue(t, p, `read 0 3 => ok
		write 1 9 hay => ok
		sync 1 => ok
		round => ok
		got 0 => data 
		got 1 => waits
		queue => -
		busy => w9+1#2
		round => ok
		got 1 => data 
		busy => -
		read 2 20 => ok`)
	if l := p.Stack().Queue(); len(l) != 1 || l[0].Born != 2 {
		t.Errorf("behind two rounds: %v", l)
	}
}

func TestK2CleanAndDispatch(t *testing.T) {
	dialogue(t, player.New(), `clean => no
		dispatch => no
		write 0 2 a => ok
		write 0 4 b => ok
		clean => no
		write 0 6 c => ok
		clean => yes
		queue => w2+1#1
		clean => yes
		clean => yes
		clean => no
		queue => w2+1#1 w4+1#2 w6+1#3
		dispatch => yes
		dispatch => yes
		dispatch => no
		queue => w6+1#3
		busy => w2+1#1 w4+1#2`)
}

func TestK2EndAndFault(t *testing.T) {
	dialogue(t, player.New(), `end 0 => error 5
		fault 0 => error 5
		read 0 3 => ok
		read 1 8 => ok
		end 0 => error 5
		dispatch => yes
		dispatch => yes
		busy => r3+1#1 r8+1#2
		end 2 => error 5
		fault 2 => error 5
		end 999 => error 5
		fault 0 => ok
		busy => r8+1#2 r3+1#1
		end 1 => ok
		busy => r8+1#2
		got 0 => data 
		got 1 => waits
		fault 0 => ok
		fault 0 => ok
		got 1 => waits
		fault 0 => ok
		got 1 => error 8
		busy => -
		write 0 5 hay => ok
		sync 0 => ok
		clean => yes
		dispatch => yes
		fault 0 => ok
		fault 0 => ok
		fault 0 => ok
		got 0 => error 9
		dirty => 1`)
}

func TestK2Settle(t *testing.T) {
	dialogue(t, player.New(), `settle 0 => 0 yes
		settle 999 => 0 yes
		read 0 3 => ok
		read 1 8 => ok
		read 2 20 => ok
		settle 0 => 0 no
		got 0 => waits
		settle 1 => 1 no
		settle 1 => 1 no
		settle 999 => 1 yes
		settle 5 => 0 yes
		got 0 => data 
		got 1 => data 
		got 2 => data `)
}

func TestK2QueueAndBusy(t *testing.T) {
	dialogue(t, player.New(), `queue => -
		busy => -
		read 0 30 => ok
		read 1 29 => ok
		read 2 31 => ok
		queue => r29+3#2,1,3
		busy => -
		dispatch => yes
		queue => -
		busy => r29+3#2,1,3
		end 0 => ok
		write 0 10 a => ok
		write 0 11 b => ok
		write 0 9 c => ok
		clean => yes
		clean => yes
		clean => yes
		read 1 0 => ok
		read 2 2 => ok
		queue => w9+3#6,4,5 r0+1#7 r2+1#8
		dispatch => yes
		queue => w9+3#6,4,5 r2+1#8
		busy => r0+1#7
		dispatch => yes
		queue => w9+3#6,4,5
		busy => r0+1#7 r2+1#8`)
}

func TestK2Dirty(t *testing.T) {
	p := player.New()
	for i := range api.Hard {
		if got, want := say(t, p, "dirty"), strconv.Itoa(i); got != want {
			t.Errorf("dirty => %s, want %s", got, want)
		}
		say(t, p, "write 0 "+strconv.Itoa(2*i)+" a")
	}
	dialogue(t, p, `dirty => 6
		write 0 20 a => ok
		got 0 => waits
		dirty => 6
		settle 9 => 1 yes
		dirty => 6`)
}

func TestK2Crash(t *testing.T) {
	p := player.New()
	d, s := p.Device(), p.Stack()
	dialogue(t, p, `write 0 2 a => ok
		write 0 4 b => ok
		write 0 6 c => ok
		clean => yes
		clean => yes
		clean => yes
		settle 9 => 3 yes
		dirty => 0
		write 1 8 d => ok
		read 0 20 => ok
		read 1 25 => ok
		dispatch => yes
		tick => ok
		crash 5 => ok
		dirty => 0
		queue => -
		busy => -
		got 0 => data 
		got 1 => data 
		read 0 20 => ok
		queue => r20+1#1`)
	if p.Device() != d || p.Stack() == s {
		t.Errorf("the device is the old one: %v, the stack another one: %v", p.Device() == d, p.Stack() != s)
	}
	if l := p.Stack().Queue(); l[0].Born != 0 {
		t.Errorf("the moment is %d", l[0].Born)
	}
	for at, want := range map[int]string{2: "a", 4: "", 6: "c", 8: ""} {
		if got := d.Peek(at); got != want {
			t.Errorf("sector %d has %q, want %q", at, got, want)
		}
	}
}

// TestK2CrashByEachNumber: its bits say what is kept.
func TestK2CrashByEachNumber(t *testing.T) {
	for keep := range 1000 {
		p := player.New()
		for i := range 10 {
			at := strconv.Itoa(3 * i)
			dialogue(t, p, "write 0 "+at+" x => ok")
			if i%3 == 2 {
				dialogue(t, p, "clean => yes\nclean => yes\nclean => yes\nsettle 9 => 3 yes")
			}
		}
		if got := say(t, p, "crash "+strconv.Itoa(keep)); got != "ok" {
			t.Fatalf("crash %d => %s", keep, got)
		}
		for i := range 10 {
			want := "" // the last one was never on the disk
			if i < 9 && keep>>i&1 == 1 {
				want = "x"
			}
			if got := p.Device().Peek(3 * i); got != want {
				t.Fatalf("crash %d: sector %d has %q, want %q", keep, 3*i, got, want)
			}
		}
	}
}

func TestK2CrashOfADeadOne(t *testing.T) {
	dialogue(t, player.New(), `write 0 3 hay => ok
		sync 0 => ok
		clean => yes
		dispatch => yes
		fault 0 => ok
		fault 0 => ok
		fault 0 => ok
		got 0 => error 9
		crash 0 => ok
		got 0 => data 
		write 0 3 oats => ok
		sync 0 => ok
		settle 9 => 1 yes
		got 0 => data 
		crash 0 => ok
		read 2 3 => ok
		round => ok
		got 2 => data oats`)
}

// TestZ1StepsThatMayNotBe: are told by their error, and do nothing.
func TestZ1StepsThatMayNotBe(t *testing.T) {
	p := player.New()
	dialogue(t, p, `write 0 3 hay => ok
		write 0 5 hay => ok
		write 0 7 hay => ok
		clean => yes
		dispatch => yes
		read 1 20 => ok`)
	before := seen(p)
	for _, w := range []string{"", "fly", "read", "write", "sync", "got", "end", "fault", "settle", "crash", "tick", "clean", "dispatch", "round", "queue", "busy", "dirty"} {
		for _, n := range []int{math.MinInt, -1, 0, 1, 1000, math.MaxInt} {
			for _, m := range []int{math.MinInt, -1, 0, 1, 1000, math.MaxInt} {
				for _, data := range []string{"", "a", "-", "a b", "0123456789"} {
					x := script.Step{Word: w, A: n, B: m, Data: data}
					err := script.Check(x)
					if err == nil {
						continue
					}
					if got, want := p.Play(x), fmt.Sprintf("error %d", err); got != want {
						t.Errorf("%+v => %s, want %s", x, got, want)
					}
				}
			}
		}
	}
	if seen(p) != before {
		t.Errorf("%s, ahead of it %s", seen(p), before)
	}
}

// TestZ1EveryStepEnds: from new, and from wherever the device was led to by others.
func TestZ1EveryStepEnds(t *testing.T) {
	for _, w := range []string{"read", "write", "sync", "got", "end", "fault", "settle", "crash", "tick", "clean", "dispatch", "round", "queue", "busy", "dirty"} {
		for a := range 1000 {
			p := player.New()
			p.Device().Start(api.Req{Write: true, Span: api.Span{From: 3, Many: 1}, Data: []string{"a"}, Tags: []int{1}})
			p.Stack().Ask(0, api.Write, 3, "b")
			p.Stack().Ask(1, api.Sync, 0, "")
			x := script.Step{Word: w, A: a, B: 999 - a}
			if script.Check(x) != nil {
				x.B = 0
			}
			if script.Check(x) != nil {
				x.A = 0
			}
			if p.Play(x) == "" {
				t.Errorf("%+v isn't answered", x)
			}
		}
	}
}

// TestZ1AnErrorChangesNothing: of what is asked, and of what ends.
func TestZ1AnErrorChangesNothing(t *testing.T) {
	p := player.New()
	dialogue(t, p, `write 0 3 hay => ok
		read 1 20 => ok
		dispatch => yes
		read 2 25 => ok`)
	before := seen(p)
	dialogue(t, p, `read 1 3 => error 6
		write 1 3 a => error 6
		sync 2 => error 6
		read 0 32 => error 1
		write 0 3 12345 => error 1
		sync 3 => error 3
		got 3 => error 5
		end 1 => error 5
		fault 1 => error 5`)
	if seen(p) != before {
		t.Errorf("%s, ahead of it %s", seen(p), before)
	}
}

// TestZ2PlayersShareNothing: the same steps are answered the same, whatever another one plays between.
func TestZ2PlayersShareNothing(t *testing.T) {
	a, b := newWorld(7), newWorld(7)
	other := newWorld(8)
	for range 500 {
		x := a.draw()
		got := a.p.Play(x)
		other.p.Play(other.draw())
		if y := b.draw(); y != x {
			t.Fatalf("%+v, %+v are drawn", x, y)
		}
		if want := b.p.Play(x); got != want || seen(a.p) != seen(b.p) {
			t.Fatalf("%+v => %s, %s; then %s, %s", x, got, want, seen(a.p), seen(b.p))
		}
	}
}

// TestZ3ErrorsByTheirNumbers: all that can be told by a step that may be.
func TestZ3ErrorsByTheirNumbers(t *testing.T) {
	for e, want := range map[api.Errno]string{
		api.OK: "ok", api.ErrBound: "error 1", api.ErrMany: "error 2", api.ErrShape: "error 3", api.ErrText: "error 4",
		api.ErrNone: "error 5", api.ErrBusy: "error 6", api.ErrFull: "error 7", api.ErrFault: "error 8", api.ErrDead: "error 9",
	} {
		if got := player.Told(e); got != want {
			t.Errorf("Told(%d) = %s, want %s", int(e), got, want)
		}
	}
}
