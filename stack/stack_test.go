package stack_test

import (
	"fmt"
	"math"
	"strconv"
	"strings"
	"testing"

	"weighbridge/api"
	"weighbridge/device"
	"weighbridge/request"
	"weighbridge/stack"
)

func told(l []api.Req) string {
	var out []string
	for _, r := range l {
		text := request.Text(r, strconv.Itoa)
		if r.Write {
			text += fmt.Sprintf("%q", r.Data)
		}
		out = append(out, text+"@"+strconv.Itoa(r.Born))
	}
	return strings.Join(out, " ")
}

// seen: all that is to be seen of a stack.
func seen(s *stack.Stack) string {
	var b strings.Builder
	for c := range api.Clients {
		data, err := s.Got(c)
		fmt.Fprintf(&b, "%d: %v %q %v; ", c, s.Waits(c), data, err)
	}
	fmt.Fprintf(&b, "dirty %d, dead %v, queue %s, busy %s", s.Dirty(), s.Dead(), told(s.Queue()), told(s.Busy()))
	return b.String()
}

// fixture: a stack, and the disk below it.
type fixture struct {
	*testing.T
	*stack.Stack
	disk *device.Device
}

func fresh(t *testing.T) fixture {
	d := device.New()
	return fixture{t, stack.New(d), d}
}

func (f fixture) ask(client, kind, at int, data string) {
	f.Helper()
	if err := f.Ask(client, kind, at, data); err != nil {
		f.Fatalf("Ask(%d, %d, %d, %q): %v", client, kind, at, data, err)
	}
}

func (f fixture) read(client, at int)               { f.Helper(); f.ask(client, api.Read, at, "") }
func (f fixture) write(client, at int, data string) { f.Helper(); f.ask(client, api.Write, at, data) }
func (f fixture) sync(client int)                   { f.Helper(); f.ask(client, api.Sync, 0, "") }

// is: a client must have been answered that.
func (f fixture) is(client int, want string) {
	f.Helper()
	if data, err := f.Got(client); f.Waits(client) || err != nil || data != want {
		f.Errorf("client %d: waits %v, got %q, %v, want %q", client, f.Waits(client), data, err, want)
	}
}

// wrong: a client must have been answered that error.
func (f fixture) wrong(client int, want error) {
	f.Helper()
	if data, err := f.Got(client); f.Waits(client) || err != want || data != "" {
		f.Errorf("client %d: waits %v, got %q, %v, want %v", client, f.Waits(client), data, err, want)
	}
}

// waiting: just these clients must wait.
func (f fixture) waiting(want ...int) {
	f.Helper()
	var got []int
	for c := range api.Clients {
		if f.Waits(c) {
			got = append(got, c)
		}
	}
	if fmt.Sprint(got) != fmt.Sprint(want) {
		f.Errorf("clients %v wait, want %v", got, want)
	}
}

func (f fixture) queued(want string) {
	f.Helper()
	if got := told(f.Queue()); got != want {
		f.Errorf("it waits %q, want %q", got, want)
	}
}

func (f fixture) busy(want string) {
	f.Helper()
	if got := told(f.Busy()); got != want {
		f.Errorf("the disk has %q, want %q", got, want)
	}
}

func (f fixture) dirty(want int) {
	f.Helper()
	if got := f.Dirty(); got != want {
		f.Errorf("%d are dirty, want %d", got, want)
	}
}

func (f fixture) dispatch() {
	f.Helper()
	if !f.Dispatch() {
		f.Fatalf("nothing goes: %s", seen(f.Stack))
	}
}

func (f fixture) clean() {
	f.Helper()
	if !f.Clean() {
		f.Fatalf("nothing is asked to be written: %s", seen(f.Stack))
	}
}

func (f fixture) end(i int) {
	f.Helper()
	if err := f.End(i, false); err != nil {
		f.Fatal(err)
	}
}

// lose: the request that the disk has alone goes wrong for good.
func (f fixture) lose() {
	f.Helper()
	for range api.Tries {
		if err := f.End(0, true); err != nil {
			f.Fatal(err)
		}
	}
}

// bring: these sectors are read, one by one.
func (f fixture) bring(sectors ...int) {
	f.Helper()
	for _, at := range sectors {
		f.read(0, at)
		f.dispatch()
		f.end(0)
	}
}

// hold: a request that no client asked for holds sectors, at the disk.
func (f fixture) hold(from, many, tag int) {
	f.Helper()
	if err := f.disk.Start(api.Req{Span: api.Span{From: from, Many: many}, Tags: []int{tag}}); err != nil {
		f.Fatal(err)
	}
}

// fill: so many sectors that aren't next to each other are dirty: 0, 2, 4 ..
func (f fixture) fill(many int) {
	f.Helper()
	for i := range many {
		f.write(0, 2*i, string(rune('a'+i)))
	}
	f.dirty(many)
}

// atHand: must a sector (not) be at hand? If it isn't, a request to read it waits, or is held back, from now on.
func (f fixture) atHand(client, at int, want bool) {
	f.Helper()
	f.read(client, at)
	if got := !f.Waits(client); got != want {
		f.Errorf("sector %d: at hand %v, want %v", at, got, want)
	}
}

func TestH1New(t *testing.T) {
	f := fresh(t)
	const want = `0: false "" <nil>; 1: false "" <nil>; 2: false "" <nil>; dirty 0, dead false, queue , busy `
	if got := seen(f.Stack); got != want {
		t.Errorf("a new one: %s", got)
	}
	if f.Uses() != 0 || f.Clean() || f.Dispatch() || f.End(0, false) != api.ErrNone {
		t.Error("a new one has something to do")
	}
	f.read(0, 3)
	f.queued("r3+1#1@0")
}

func TestH1NewOverADeviceThatHasSomething(t *testing.T) {
	f := fresh(t)
	f.write(0, 3, "hay")
	f.sync(1)
	f.clean()
	f.dispatch()
	f.end(0)
	f.read(2, 9)
	f.dispatch()
	f.End(0, true)
	g := fixture{t, stack.New(f.disk), f.disk}
	g.waiting()
	g.queued("")
	g.busy("r9+1#2@0")
	g.dirty(0)
	// A new driver: it has gone wrong no more often than here.
	for range api.Tries - 1 {
		g.End(0, true)
	}
	g.busy("r9+1#2@0")
	g.end(0)
	g.busy("")
	g.read(0, 3)
	g.queued("r3+1#1@0")
	g.dispatch()
	g.end(0)
	g.is(0, "hay")
}

func TestH1WhatIsToBeSeen(t *testing.T) {
	f := fresh(t)
	f.read(0, 3)
	f.read(2, 9)
	f.waiting(0, 2)
	f.queued("r3+1#1@0 r9+1#2@0")
	f.dispatch()
	f.busy("r3+1#1@0")
	f.queued("r9+1#2@0")
	f.write(1, 20, "a")
	f.waiting(0, 2)
	f.dirty(1)
	for _, c := range []int{math.MinInt, -1, api.Clients, math.MaxInt} {
		if f.Waits(c) {
			t.Errorf("client %d waits, and there is none", c)
		}
		if data, err := f.Got(c); data != "" || err != api.ErrNone {
			t.Errorf("client %d, of which there is none, got %q, %v", c, data, err)
		}
	}
}

func TestH2HeldByWhatWaitsOrTheDiskHas(t *testing.T) {
	f := fresh(t)
	f.read(0, 3)
	f.read(1, 3)
	f.queued("r3+1#1@0")
	f.dispatch()
	f.read(2, 3)
	f.queued("")
	f.Tick()
	f.queued("")
	f.end(0)
	f.waiting()

	g := fresh(t)
	g.fill(api.Soft)
	g.clean()
	g.dispatch()
	g.clean()
	g.clean()
	g.queued(`w2+1#2["b"]@0 w4+1#3["c"]@0`)
	if g.Clean() {
		t.Error("what is held is asked to be written once more")
	}
}

func TestH2HeldDoesNotGo(t *testing.T) {
	f := fresh(t)
	f.bring(0, 1, 2, 3, 4, 5, 6, 7)
	f.hold(0, 3, 100)
	f.read(0, 20)
	f.dispatch()
	f.end(1) // 3 goes: those that were used less lately are held
	f.is(0, "")
	f.atHand(0, 3, false)
	for _, at := range []int{0, 1, 2, 4, 5, 6, 7, 20} {
		f.atHand(1, at, true)
	}
}

func TestH2BornAndTags(t *testing.T) {
	f := fresh(t)
	f.read(0, 3)
	f.Tick()
	f.Tick()
	f.read(1, 9)
	f.Tick()
	f.read(2, 10)
	f.queued("r3+1#1@0 r9+2#2,3@2")
	f.dispatch()
	f.end(0)
	f.read(0, 3) // at hand: no tag is given
	f.read(0, 20)
	f.queued("r9+2#2,3@2 r20+1#4@3")
}

func TestH2ATagIsGivenJustIfItIsDone(t *testing.T) {
	f := fresh(t)
	f.fill(4)
	for range 3 {
		f.clean()
	}
	for c := range api.Clients {
		f.read(c, 20+2*c)
	}
	if got := len(f.Queue()); got != api.Depth {
		t.Fatalf("%d wait", got)
	}
	if f.Clean() {
		t.Error("asked, though there is no room")
	}
	f.dispatch()
	f.clean()
	f.queued(`w0+1#1["a"]@0 w2+1#2["b"]@0 w4+1#3["c"]@0 r22+1#5@0 r24+1#6@0 w6+1#7["d"]@0`)
}

func TestH2AReadWithoutRoomIsAskedForLater(t *testing.T) {
	f := fresh(t)
	f.fill(4)
	for range 4 {
		f.clean()
	}
	f.read(0, 20)
	f.read(1, 22)
	f.read(2, 24)
	f.queued(`w0+1#1["a"]@0 w2+1#2["b"]@0 w4+1#3["c"]@0 w6+1#4["d"]@0 r20+1#5@0 r22+1#6@0`)
	f.dispatch()
	f.Tick()
	f.queued(`w0+1#1["a"]@0 w2+1#2["b"]@0 w4+1#3["c"]@0 w6+1#4["d"]@0 r22+1#6@0 r24+1#7@1`)
}

func TestH2Used(t *testing.T) {
	f := fresh(t)
	f.fill(api.Soft) // 0, 2, 4
	f.read(1, 0)
	f.write(1, 2, "b")
	f.clean()
	f.clean()
	f.clean()
	f.queued(`w4+1#1["c"]@0 w0+1#2["a"]@0 w2+1#3["b"]@0`)
	if f.Uses() != 5 {
		t.Errorf("used %d times", f.Uses())
	}

	g := fresh(t)
	g.bring(0, 2, 4, 6, 8, 10, 12, 14)
	g.read(0, 0)
	g.bring(20) // 2 was used least lately
	g.atHand(1, 0, true)
	g.atHand(1, 2, false)
}

func TestH2AWriteThatIsTriedCounts(t *testing.T) {
	f := fresh(t)
	f.bring(0, 1, 2, 3, 4, 5, 6, 7)
	f.hold(0, 4, 100)
	f.hold(4, 4, 101)
	f.write(0, 20, "a")
	f.waiting(0)
	if f.Uses() != api.Cached+1 {
		t.Errorf("used %d times", f.Uses())
	}
	f.Tick()
	if f.Uses() != api.Cached+2 {
		t.Errorf("used %d times", f.Uses())
	}
}

func TestH3AskErrors(t *testing.T) {
	f := fresh(t)
	f.write(0, 1, "x")
	f.read(1, 9)
	long := strings.Repeat("x", api.MaxData+1)
	before := seen(f.Stack)
	for _, c := range []struct {
		client, kind, at int
		data             string
		want             error
	}{
		{-1, api.Read, 3, "", api.ErrShape},
		{api.Clients, api.Read, 3, "", api.ErrShape},
		{math.MinInt, api.Write, -1, long, api.ErrShape},
		{math.MaxInt, api.Sync, 1, "x", api.ErrShape},
		{0, 0, 3, "", api.ErrShape},
		{0, 4, 3, "", api.ErrShape},
		{0, -1, 3, "", api.ErrShape},
		{0, math.MaxInt, -1, long, api.ErrShape},
		{1, 0, 3, "", api.ErrShape}, // though it waits
		{0, api.Read, -1, "", api.ErrBound},
		{0, api.Read, api.Sectors, "", api.ErrBound},
		{0, api.Read, math.MinInt, "", api.ErrBound},
		{0, api.Read, math.MaxInt, "", api.ErrBound},
		{0, api.Read, 3, "a", api.ErrBound},
		{0, api.Write, -1, "a", api.ErrBound},
		{0, api.Write, api.Sectors, "a", api.ErrBound},
		{0, api.Write, 3, long, api.ErrBound},
		{0, api.Sync, 1, "", api.ErrBound},
		{0, api.Sync, -1, "", api.ErrBound},
		{0, api.Sync, 0, "a", api.ErrBound},
		{1, api.Read, api.Sectors, "", api.ErrBound}, // though it waits
		{1, api.Write, 3, long, api.ErrBound},
		{1, api.Read, 3, "", api.ErrBusy},
		{1, api.Read, 9, "", api.ErrBusy},
		{1, api.Write, 9, "a", api.ErrBusy},
		{1, api.Sync, 0, "", api.ErrBusy},
	} {
		if err := f.Ask(c.client, c.kind, c.at, c.data); err != c.want {
			t.Errorf("Ask(%d, %d, %d, %q): %v, want %v", c.client, c.kind, c.at, c.data, err, c.want)
		}
		if got := seen(f.Stack); got != before {
			t.Fatalf("Ask(%d, %d, %d, %q) changes something: %s, want %s", c.client, c.kind, c.at, c.data, got, before)
		}
	}
}

func TestH3EdgesThatMayBe(t *testing.T) {
	f := fresh(t)
	for _, at := range []int{0, api.Sectors - 1} {
		for _, data := range []string{"", "a", "oats"} {
			f.write(api.Clients-1, at, data)
			f.is(api.Clients-1, "")
			f.read(0, at)
			f.is(0, data)
		}
	}
}

func TestH3GotIsTheLastAnswer(t *testing.T) {
	f := fresh(t)
	f.write(0, 3, "hay")
	f.read(0, 3)
	f.is(0, "hay")
	f.read(0, 9)
	f.waiting(0)
	if data, err := f.Got(0); data != "hay" || err != nil {
		t.Errorf("while it waits: %q, %v", data, err)
	}
	f.dispatch()
	f.lose()
	f.wrong(0, api.ErrFault)
	f.read(0, 9)
	if data, err := f.Got(0); data != "" || err != api.ErrFault || !f.Waits(0) {
		t.Errorf("while it waits: %q, %v", data, err)
	}
	f.dispatch()
	f.end(0)
	f.is(0, "")
	f.read(0, 3)
	f.is(0, "hay")
	f.write(0, 3, "oats")
	f.is(0, "")
	f.is(1, "")
}

func TestH3AskServesAll(t *testing.T) {
	f := fresh(t)
	f.read(1, 3)
	f.write(2, 3, "hay")
	f.waiting(1) // served ahead of the write
	f.write(0, 9, "a")
	f.is(1, "hay")
}

func TestH4ReadAtHand(t *testing.T) {
	f := fresh(t)
	f.write(0, 3, "hay")
	f.read(1, 3)
	f.is(1, "hay")
	f.queued("")
	f.read(1, 4)
	f.waiting(1)
	f.queued("r4+1#1@0")
}

func TestH4WriteIsAtHandAtOnce(t *testing.T) {
	f := fresh(t)
	f.write(0, 3, "hay")
	f.write(1, 3, "oats")
	f.is(0, "")
	f.is(1, "")
	f.dirty(1)
	f.read(2, 3)
	f.is(2, "oats")
	if f.disk.Peek(3) != "" {
		t.Error("it is on the disk, and nobody asked for that")
	}
}

func TestH4NotMoreThanHardAreDirty(t *testing.T) {
	f := fresh(t)
	f.fill(api.Hard)
	f.write(0, 20, "x")
	f.waiting(0)
	f.dirty(api.Hard)
	f.write(1, 0, "z") // dirty already
	f.is(1, "")
	f.read(1, 0)
	f.is(1, "z")
	f.write(1, 21, "y")
	f.read(2, 22)
	f.waiting(0, 1, 2)
	f.clean()
	f.dispatch() // the one that reads
	f.dispatch()
	f.end(1)
	f.waiting(1, 2) // the first one was served first
	f.dirty(api.Hard)
}

func TestH4AWriteWithoutRoomWaits(t *testing.T) {
	f := fresh(t)
	f.bring(0, 1, 2, 3, 4, 5, 6, 7)
	f.hold(0, 4, 100)
	f.hold(4, 4, 101)
	f.write(0, 20, "a")
	f.waiting(0)
	f.dirty(0)
	f.write(1, 5, "b") // at hand: it needs no room
	f.is(1, "")
	f.end(0)
	f.is(0, "")
	f.dirty(2)
	f.atHand(1, 0, false) // that went
	f.atHand(2, 1, true)
}

func TestH4SyncOfNothingIsAnsweredAtOnce(t *testing.T) {
	f := fresh(t)
	f.sync(0)
	f.is(0, "")
}

func TestH4SyncFlushes(t *testing.T) {
	f := fresh(t)
	f.write(0, 3, "hay")
	f.sync(1)
	f.waiting(1)
	f.clean()
	f.dispatch()
	f.end(0)
	f.is(1, "")
	f.dirty(0)
	f.disk.Crash(0)
	if f.disk.Peek(3) != "hay" {
		t.Error("what was synced is lost")
	}
}

func TestH4NothingElseFlushes(t *testing.T) {
	f := fresh(t)
	f.fill(api.Soft)
	f.clean()
	f.dispatch()
	f.end(0)
	if f.disk.Peek(0) != "a" {
		t.Error("it wasn't written")
	}
	f.disk.Crash(0)
	if f.disk.Peek(0) != "" {
		t.Error("it is for good, and nobody asked for that")
	}
}

func TestH4SyncWaitsForWhatWasDirtyThen(t *testing.T) {
	f := fresh(t)
	f.write(0, 3, "a")
	f.write(0, 9, "b")
	f.sync(1)
	f.write(0, 20, "c") // behind it
	f.clean()
	f.dispatch()
	f.end(0)
	f.waiting(1)
	f.clean()
	f.dispatch()
	f.end(0)
	f.is(1, "")
	f.dirty(1)
}

func TestH4SyncWaitsNoMoreForWhatWasClean(t *testing.T) {
	f := fresh(t)
	f.write(0, 3, "a")
	f.write(0, 9, "b")
	f.sync(1)
	f.clean()
	f.dispatch()
	f.end(0)
	f.write(0, 3, "c") // dirty again
	f.clean()
	f.dispatch()
	f.end(0)
	f.is(1, "")
	f.dirty(1)
}

func TestH4SyncWaitsForWhatIsWrittenMeanwhile(t *testing.T) {
	f := fresh(t)
	f.write(0, 3, "a")
	f.sync(1)
	f.clean()
	f.write(0, 3, "b")
	f.dispatch()
	f.end(0)
	f.waiting(1) // on the disk is what it had
	f.dirty(1)
	f.clean()
	f.queued(`w3+1#2["b"]@0`)
	f.dispatch()
	f.end(0)
	f.is(1, "")
}

func TestH4Dead(t *testing.T) {
	f := fresh(t)
	f.write(0, 3, "hay")
	f.sync(0)
	f.clean()
	f.dispatch()
	f.lose()
	f.wrong(0, api.ErrDead)
	f.write(1, 3, "x")
	f.wrong(1, api.ErrDead)
	f.write(1, 9, "x")
	f.wrong(1, api.ErrDead)
	f.sync(2)
	f.wrong(2, api.ErrDead)
	f.read(2, 3)
	f.is(2, "hay")
	f.read(2, 9)
	f.dispatch()
	f.end(0)
	f.is(2, "")
	f.dirty(1)
}

func TestH4DeadComesAheadOfTooManyDirty(t *testing.T) {
	f := fresh(t)
	f.fill(api.Hard)
	f.write(1, 20, "x")
	f.waiting(1)
	f.clean()
	f.dispatch()
	f.lose()
	f.wrong(1, api.ErrDead)
}

func TestH4ServedFromTheFirstClientOn(t *testing.T) {
	f := fresh(t)
	f.bring(0, 1, 2, 3, 4, 5, 6, 7)
	f.hold(0, 4, 100)
	f.hold(4, 4, 101)
	f.write(2, 20, "c")
	f.write(1, 20, "b")
	f.write(0, 20, "a")
	f.waiting(0, 1, 2)
	f.end(0)
	f.waiting()
	f.read(0, 20)
	f.is(0, "c")
}

func TestH5TickServesAll(t *testing.T) {
	f := fresh(t)
	f.read(0, 3)
	f.write(1, 3, "hay")
	f.waiting(0)
	f.Tick()
	f.is(0, "hay")
}

func TestH5TheLastMoment(t *testing.T) {
	f := fresh(t)
	f.At(api.MaxTime - 1)
	f.read(0, 3)
	for range 3 {
		f.Tick()
	}
	f.read(1, 9)
	f.queued("r3+1#1@999999999 r9+1#2@1000000000")
}

func TestH5CleanWhenSomethingMustBe(t *testing.T) {
	f := fresh(t)
	f.fill(api.Soft - 1)
	f.read(1, 20)
	if f.Clean() {
		t.Error("it is written, though nothing must be")
	}
	f.write(0, 9, "x")
	f.clean()

	g := fresh(t)
	g.write(0, 3, "a")
	g.sync(0)
	g.clean()
	g.queued(`w3+1#1["a"]@0`)
	if g.Clean() {
		t.Error("there is none to pick")
	}
}

func TestH5CleanWhenAWriteWaits(t *testing.T) {
	f := fresh(t)
	f.bring(0, 1, 2, 3, 4, 5, 6)
	f.write(0, 9, "a")
	f.hold(0, 4, 100)
	f.hold(4, 3, 101)
	if f.Clean() {
		t.Error("it is written, though nothing must be")
	}
	f.write(1, 20, "b")
	f.waiting(1)
	f.clean()
	f.queued(`w9+1#8["a"]@0`)
}

func TestH5CleanOfADeadOne(t *testing.T) {
	f := fresh(t)
	f.fill(api.Hard)
	f.clean()
	f.dispatch()
	f.lose()
	if f.Clean() {
		t.Error("it is dead, and something is asked to be written")
	}
	f.queued("")
}

func TestH5WhatWaitedStillGoesWhenItIsDead(t *testing.T) {
	f := fresh(t)
	f.fill(api.Soft)
	f.clean()
	f.clean()
	f.dispatch()
	f.lose()
	f.dispatch()
	f.busy(`w2+1#2["b"]@0`)
	f.end(0)
	f.dirty(2)
}

func TestH5DispatchAsTheElevatorSays(t *testing.T) {
	f := fresh(t)
	f.read(0, 20)
	f.read(1, 5)
	f.read(2, 10)
	f.dispatch()
	f.dispatch()
	f.busy("r5+1#2@0 r10+1#3@0")
	if f.Dispatch() {
		t.Error("the disk has no room")
	}
	f.queued("r20+1#1@0")
	f.end(0)
	f.dispatch()
	f.busy("r10+1#3@0 r20+1#1@0")
	f.end(0)
	f.end(0)
	if f.Dispatch() {
		t.Error("nothing waits")
	}
}

func TestH5DispatchAtTheMoment(t *testing.T) {
	for _, c := range []struct {
		ticks int
		want  string
	}{{api.Reads - 1, "r5+1#2@3"}, {api.Reads, "r20+1#1@0"}} {
		f := fresh(t)
		f.read(0, 20)
		for range c.ticks {
			f.Tick()
		}
		f.read(1, 5)
		f.dispatch()
		f.busy(c.want)
	}
}

func TestH5TheTurnIsKept(t *testing.T) {
	f := fresh(t)
	f.fill(api.Soft) // 0, 2, 4
	f.clean()
	var went []string
	for i := range 8 { // while reads come and come
		f.read(0, 31-2*i)
		f.dispatch()
		went = append(went, told(f.Busy()))
		f.end(0)
		if strings.HasPrefix(went[i], "w") {
			break
		}
	}
	want := `r31+1#2@0 r29+1#3@0 w0+1#1["a"]@0`
	if got := strings.Join(went, " "); got != want {
		t.Errorf("%s went, want %s", got, want)
	}
}

func TestH6EndOfNone(t *testing.T) {
	f := fresh(t)
	f.read(0, 3)
	f.dispatch()
	before := seen(f.Stack)
	for _, i := range []int{math.MinInt, -1, 1, api.Slots, math.MaxInt} {
		for _, fault := range []bool{false, true} {
			if err := f.End(i, fault); err != api.ErrNone || seen(f.Stack) != before {
				t.Errorf("End(%d, %v): %v, %s", i, fault, err, seen(f.Stack))
			}
		}
	}
}

func TestH6NotDone(t *testing.T) {
	f := fresh(t)
	f.read(0, 3)
	f.read(1, 9)
	f.dispatch()
	f.dispatch()
	f.write(2, 3, "a") // now the first one could be served, but nobody is
	for range api.Tries - 1 {
		for _, want := range []string{"r9+1#2@0 r3+1#1@0", "r3+1#1@0 r9+1#2@0"} {
			if err := f.End(0, true); err != nil {
				t.Fatal(err)
			}
			f.waiting(0, 1)
			f.busy(want)
		}
	}
}

func TestH6AWriteWentWrong(t *testing.T) {
	f := fresh(t)
	f.fill(api.Soft)
	f.read(1, 20)
	f.clean()
	f.dispatch()
	f.dispatch()
	f.busy(`r20+1#1@0 w0+1#2["a"]@0`)
	for i := range api.Tries {
		if f.Dead() {
			t.Errorf("it is dead behind %d", i)
		}
		f.End(1, true)
	}
	if !f.Dead() {
		t.Error("it isn't dead")
	}
	f.dirty(api.Soft)
	f.waiting(1) // who reads has nothing to do with it
	f.end(0)
	f.is(1, "")
}

func TestH6AReadWentWrong(t *testing.T) {
	f := fresh(t)
	f.read(0, 3)
	f.read(1, 4)
	f.read(2, 9)
	f.dispatch()
	f.busy("r3+2#1,2@0")
	f.lose()
	f.wrong(0, api.ErrFault)
	f.wrong(1, api.ErrFault)
	f.waiting(2)
	if f.Dead() {
		t.Error("it is dead, and nothing was written")
	}
	f.dispatch()
	f.end(0)
	f.is(2, "")
	f.read(0, 3) // it may be asked for again
	f.dispatch()
	f.end(0)
	f.is(0, "")
}

func TestH6AReadWentWrongThoughItWasWritten(t *testing.T) {
	f := fresh(t)
	f.read(0, 3)
	f.dispatch()
	f.write(1, 3, "a")
	f.lose()
	f.wrong(0, api.ErrFault)
	f.read(0, 3)
	f.is(0, "a")
}

func TestH6WhoWritesThereIsNotAnsweredAFault(t *testing.T) {
	f := fresh(t)
	f.fill(api.Hard)
	f.read(0, 20)
	f.write(1, 20, "a")
	f.sync(2)
	f.dispatch()
	f.lose()
	f.wrong(0, api.ErrFault)
	f.waiting(1, 2)
}

func TestH6BehindAFaultAllAreServed(t *testing.T) {
	f := fresh(t)
	f.read(0, 20)
	f.read(1, 9)
	f.dispatch()
	f.busy("r9+1#2@0")
	f.write(2, 20, "a")
	f.waiting(0, 1)
	f.lose()
	f.wrong(1, api.ErrFault)
	f.is(0, "a")
}

func TestH6CleanByWhatWasWritten(t *testing.T) {
	f := fresh(t)
	f.write(0, 3, "a")
	f.write(0, 4, "b")
	f.write(0, 5, "c")
	for range 3 {
		f.clean()
	}
	f.queued(`w3+3#1,2,3["a" "b" "c"]@0`)
	f.dispatch()
	f.write(0, 4, "x")
	f.write(0, 5, "y")
	f.write(0, 5, "c") // as it was
	f.end(0)
	f.dirty(1)
	for at, want := range map[int]string{3: "a", 4: "b", 5: "c"} {
		if got := f.disk.Peek(at); got != want {
			t.Errorf("sector %d: %q, want %q", at, got, want)
		}
	}
	f.sync(1)
	f.clean()
	f.queued(`w4+1#4["x"]@0`)
}

func TestH6WhatWasReadIsAtHand(t *testing.T) {
	f := fresh(t)
	f.write(0, 3, "a")
	f.write(0, 4, "b")
	f.write(0, 5, "c")
	f.sync(0)
	for range 3 {
		f.clean()
	}
	f.dispatch()
	f.end(0)
	g := fixture{t, stack.New(f.disk), f.disk}
	g.read(0, 4)
	g.read(1, 3)
	g.read(2, 5)
	g.queued("r3+3#2,1,3@0")
	g.dispatch()
	g.end(0)
	g.is(0, "b")
	g.is(1, "a")
	g.is(2, "c")
	g.dirty(0)
	if g.Uses() != 3 {
		t.Errorf("used %d times", g.Uses())
	}
	for at, want := range map[int]string{3: "a", 4: "b", 5: "c"} {
		g.read(0, at)
		g.is(0, want)
	}
}

func TestH6PutAtHandRising(t *testing.T) {
	f := fresh(t)
	f.read(0, 4)
	f.read(1, 3)
	f.dispatch()
	f.end(0)
	f.bring(10, 12, 14, 16, 18, 20)
	f.bring(22) // instead of 3, not of 4
	f.atHand(0, 4, true)
	f.atHand(1, 3, false)
}

func TestH6WhatIsAtHandIsNewer(t *testing.T) {
	f := fresh(t)
	f.read(0, 3)
	f.dispatch()
	f.write(1, 3, "new")
	f.end(0)
	f.is(0, "new")
	f.dirty(1)
	f.read(2, 3)
	f.is(2, "new")
}

func TestH6WithoutRoomItIsAnsweredAllTheSame(t *testing.T) {
	f := fresh(t)
	f.bring(0, 1, 2, 3, 10, 12, 14, 16)
	for _, at := range []int{10, 12, 14, 16} {
		f.write(0, at, "x")
	}
	f.hold(0, 4, 100)
	f.read(1, 20)
	f.read(2, 21)
	f.dispatch()
	uses := f.Uses()
	f.end(1)
	f.is(1, "")
	f.is(2, "")
	if f.Uses() != uses {
		t.Error("what isn't put at hand counts as used")
	}
	f.atHand(1, 20, false)
	for _, at := range []int{0, 1, 2, 3, 10, 12, 14, 16} {
		f.atHand(2, at, true)
	}
}

func TestH6BehindAllThatAllAreServed(t *testing.T) {
	f := fresh(t)
	f.read(0, 20)
	f.read(1, 9)
	f.dispatch()
	f.write(2, 20, "a")
	f.waiting(0, 1)
	f.end(0)
	f.is(0, "a")
	f.is(1, "")
}

func TestZ1NoCallPanics(t *testing.T) {
	odd := []int{math.MinInt, -1, 0, 1, 2, 3, 4, 31, 32, math.MaxInt}
	f := fresh(t)
	f.disk.Start(api.Req{Span: api.Span{From: 30, Many: math.MaxInt}})
	f.disk.Start(api.Req{Write: true, Span: api.Span{From: -5, Many: 9}, Data: []string{"a"}})
	for _, a := range odd {
		for _, b := range odd {
			for _, data := range []string{"", "a", "much too long"} {
				for _, c := range odd {
					f.Ask(a, b, c, data)
				}
			}
			f.Tick()
			f.Clean()
			f.Dispatch()
			f.End(a, b < 0)
		}
		f.Waits(a)
		f.Got(a)
	}
}

func TestZ2ListsThatComeOut(t *testing.T) {
	f := fresh(t)
	f.fill(api.Soft)
	f.clean()
	f.clean()
	f.dispatch()
	before := seen(f.Stack)
	for _, list := range []func() []api.Req{f.Queue, f.Busy} {
		l := list()
		for i := range l[:cap(l)] {
			l[:cap(l)][i] = api.Req{Tags: []int{99}}
		}
	}
	if got := seen(f.Stack); got != before {
		t.Errorf("what comes out is the stack's own: %s, want %s", got, before)
	}
	l := f.Queue()
	f.clean()
	f.dispatch()
	if len(l) != 1 || told(l) != `w2+1#2["b"]@0` {
		t.Errorf("what came out was changed: %s", told(l))
	}
}

func TestZ2StacksAreApart(t *testing.T) {
	f, g := fresh(t), fresh(t)
	before := seen(g.Stack)
	f.fill(api.Soft)
	f.clean()
	f.dispatch()
	f.lose()
	if seen(g.Stack) != before {
		t.Errorf("another one changed: %s", seen(g.Stack))
	}
}

func TestZ3ErrorsAreBare(t *testing.T) {
	f := fresh(t)
	f.read(0, 3)
	f.dispatch()
	f.lose()
	_, fault := f.Got(0)
	_, none := f.Got(-1)
	f.read(1, 3)
	for _, err := range []error{fault, none, f.Ask(-1, 0, 0, ""), f.Ask(0, api.Read, -1, ""), f.Ask(1, api.Read, 3, ""), f.End(5, false)} {
		if _, ok := err.(api.Errno); !ok {
			t.Errorf("%v is no bare api.Errno", err)
		}
	}
	f.write(2, 3, "a")
	if _, err := f.Got(2); err != nil {
		t.Errorf("well, and yet %v", err)
	}
}
