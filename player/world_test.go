package player_test

import (
	"math/rand"
	"strconv"
	"strings"

	"weighbridge/api"
	"weighbridge/player"
	"weighbridge/script"
)

// world: a player that is led about by steps that look drawn, and what ought to be true of what it answers.
type world struct {
	die *rand.Rand
	p   *player.Player

	sectors int // so many are asked for
	faults  int // so many of 100 that end have a fault
	writes  int // each write is of something else

	asked  [api.Clients]script.Step      // what a client waits for; no Word: it doesn't
	had    [api.Sectors][]string         // what each sector had, one after the other; the last one is what it has
	synced [api.Sectors]int              // which of these it had at the last sync that was answered well
	marks  [api.Clients][api.Sectors]int // which of these it had when a client asked to sync

	before  [api.Sectors]int // which of these it had ahead of the last step
	answers []answer         // of the last step
}

// answer that a client was given in a step.
type answer struct {
	to     script.Step
	client int
	told   string
}

// newWorld: the same each time for the same seed.
func newWorld(seed int) *world {
	w := &world{
		die:     rand.New(rand.NewSource(int64(seed))),
		p:       player.New(),
		sectors: 8 + seed%4*8,
		faults:  seed % 3 * 15,
	}
	for at := range w.had {
		w.had[at] = []string{""}
	}
	return w
}

// draw a step that may be.
func (w *world) draw() script.Step {
	x := script.Step{Word: []string{
		"read", "read", "read", "write", "write", "write", "sync", "tick", "tick", "clean", "clean", "dispatch", "dispatch", "dispatch", "end", "end", "end",
	}[w.die.Intn(17)]}
	switch x.Word {
	case "read":
		x.A, x.B = w.die.Intn(api.Clients), w.die.Intn(w.sectors)
	case "write":
		w.writes++
		x.A, x.B, x.Data = w.die.Intn(api.Clients), w.die.Intn(w.sectors), strconv.FormatInt(int64(w.writes), 36)
	case "sync":
		x.A = w.die.Intn(api.Clients)
	case "end":
		x.A = w.die.Intn(api.Slots)
		if w.die.Intn(100) < w.faults {
			x.Word = "fault"
		}
	}
	return x
}

// step: one is drawn and played.
func (w *world) step() string { return w.play(w.draw()) }

// play a step, and note what clients are answered by it.
func (w *world) play(x script.Step) string {
	w.answers = nil
	for at := range w.had {
		w.before[at] = len(w.had[at]) - 1
	}
	told := w.p.Play(x)
	if told == "ok" && isAsked(x) {
		w.asked[x.A] = x
		w.marks[x.A] = w.before
	}
	// Who is served later comes later, so clients are gone over from the first one on.
	for c := range w.asked {
		if w.asked[c].Word != "" {
			w.note(c)
		}
	}
	return told
}

func isAsked(x script.Step) bool { return x.Word == "read" || x.Word == "write" || x.Word == "sync" }

func (w *world) got(c int) string { return w.p.Play(script.Step{Word: "got", A: c}) }

// note what a client was answered, if it was.
func (w *world) note(c int) {
	told := w.got(c)
	if told == "waits" {
		return
	}
	x := w.asked[c]
	w.asked[c] = script.Step{}
	w.answers = append(w.answers, answer{x, c, told})
	switch {
	case strings.HasPrefix(told, "error"):
	case x.Word == "write":
		w.had[x.B] = append(w.had[x.B], x.Data)
	case x.Word == "sync":
		for at := range w.synced {
			w.synced[at] = max(w.synced[at], w.marks[c][at])
		}
	}
}

// rightToRead: what a client that was answered in the last step may have read of a sector: what it had ahead of the step, or was given in it.
func (w *world) rightToRead(at int) []string { return w.had[at][w.before[at]:] }

// rightBehindACrash: what a sector had at the last sync, or was given since.
func (w *world) rightBehindACrash(at int) []string { return w.had[at][w.synced[at]:] }

// crash: what the disk has then is what all sectors have, for good, and nobody waits.
func (w *world) crash(keep int) string {
	told := w.p.Play(script.Step{Word: "crash", A: keep})
	for at := range w.had {
		w.had[at] = []string{w.p.Device().Peek(at)}
	}
	w.synced = [api.Sectors]int{}
	w.asked = [api.Clients]script.Step{}
	w.marks = [api.Clients][api.Sectors]int{}
	return told
}
