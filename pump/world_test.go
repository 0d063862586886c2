package pump_test

import (
	"math/rand"
	"strconv"

	"weighbridge/api"
	"weighbridge/device"
	"weighbridge/stack"
)

// world: a stack that is led about by steps that look drawn, and what ought to be true of it then.
type world struct {
	die *rand.Rand
	d   *device.Device
	s   *stack.Stack

	sectors int   // so many are asked for
	faults  int   // so many of 100 that end have a fault
	kinds   []int // what is asked
	asked   [api.Clients]wish
	writes  int                           // each write is of something else
	had     [api.Sectors][]string         // what each sector had, one after the other; the last one is what it has
	synced  [api.Sectors]int              // which of these it had at the last sync that was answered well
	marks   [api.Clients][api.Sectors]int // which of these it had when a client asked to sync

	before  [api.Sectors]int // which of these it had ahead of the last step
	answers []answer         // of the last step
}

// wish: what a client asked for.
type wish struct {
	kind, at int
	data     string
}

// answer: what a client was answered in a step.
type answer struct {
	wish
	client int
	got    string
	err    error
}

// newWorld: the same each time for the same seed.
func newWorld(seed int) *world {
	d := device.New()
	w := &world{
		die:     rand.New(rand.NewSource(int64(seed))),
		d:       d,
		s:       stack.New(d),
		sectors: 8 + seed%4*8,
		faults:  seed % 3 * 15,
		kinds:   []int{api.Read, api.Read, api.Read, api.Write, api.Write, api.Write, api.Sync},
	}
	for at := range w.had {
		w.had[at] = []string{""}
	}
	return w
}

// step: something is done, and what is answered by it is noted.
func (w *world) step() {
	w.note(func() {
		switch w.die.Intn(10) {
		case 0, 1, 2, 3:
			w.ask()
		case 4:
			w.s.Tick()
		case 5:
			w.s.Clean()
		case 6, 7:
			w.s.Dispatch()
		default:
			w.end()
		}
	})
}

// note what is answered by what is done.
func (w *world) note(do func()) {
	for at := range w.had {
		w.before[at] = len(w.had[at]) - 1
	}
	w.answers = nil
	var waited [api.Clients]bool
	for c := range waited {
		waited[c] = w.s.Waits(c)
		if !waited[c] {
			w.asked[c] = wish{}
		}
	}
	do()
	for c := range waited {
		if w.asked[c].kind != 0 && !w.s.Waits(c) {
			w.answered(c)
		}
	}
}

// ask for something that may be, of a client that doesn't wait.
func (w *world) ask() {
	c := w.die.Intn(api.Clients)
	x := wish{kind: w.kinds[w.die.Intn(len(w.kinds))]}
	if x.kind != api.Sync {
		x.at = w.die.Intn(w.sectors)
	}
	if x.kind == api.Write {
		w.writes++
		x.data = strconv.FormatInt(int64(w.writes), 36)
	}
	w.askFor(c, x)
}

func (w *world) askFor(c int, x wish) {
	if w.s.Waits(c) {
		return
	}
	w.asked[c] = x
	w.marks[c] = w.before
	if err := w.s.Ask(c, x.kind, x.at, x.data); err != nil {
		panic(err)
	}
}

// end one of those that the disk has, if it has any.
func (w *world) end() {
	if n := len(w.s.Busy()); n > 0 {
		w.s.End(w.die.Intn(n), w.die.Intn(100) < w.faults)
	}
}

// answered: a client was. Who is served later comes later, so clients are gone over from the first one on.
func (w *world) answered(c int) {
	x := w.asked[c]
	got, err := w.s.Got(c)
	w.answers = append(w.answers, answer{x, c, got, err})
	switch {
	case err != nil:
	case x.kind == api.Write:
		w.had[x.at] = append(w.had[x.at], x.data)
	case x.kind == api.Sync:
		for at := range w.synced {
			w.synced[at] = max(w.synced[at], w.marks[c][at])
		}
	}
}

// rightToRead: what a client that was answered in the last step may have read of a sector: what it had ahead of the step, or was given in it.
func (w *world) rightToRead(at int) []string { return w.had[at][w.before[at]:] }

// rightBehindACrash: what a sector had at the last sync, or was given since.
func (w *world) rightBehindACrash(at int) []string { return w.had[at][w.synced[at]:] }

// crash: what the disk has then is what all sectors have, for good, and nobody waits.
func (w *world) crash(keep uint64) {
	w.d.Crash(keep)
	w.s = stack.New(w.d)
	for at := range w.had {
		w.had[at] = []string{w.d.Peek(at)}
		w.synced[at] = 0
	}
	w.asked = [api.Clients]wish{}
	w.marks = [api.Clients][api.Sectors]int{}
}
