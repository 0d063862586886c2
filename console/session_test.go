package console_test

import (
	"strings"
	"testing"

	"weighbridge/console"
)

// session: the document's example.
const session = `read 0 3 => ok
queue => r3+1#1
dispatch => yes
busy => r3+1#1
end 0 => ok
got 0 => data 
write 0 3 hay => ok
write 1 4 oats => ok
dirty => 2
got 1 => data 
read 2 3 => ok
got 2 => data hay
sync 0 => ok
got 0 => waits
clean => yes
clean => yes
queue => w3+2#3,2
dispatch => yes
busy => w3+2#3,2
fault 0 => ok
busy => w3+2#3,2
end 0 => ok
got 0 => data 
dirty => 0
write 1 7 a => ok
write 1 8 b => ok
write 2 9 c => ok
write 1 1 d => ok
write 2 2 e => ok
write 1 5 f => ok
write 2 6 g => ok
got 2 => waits
clean => yes
clean => yes
clean => yes
queue => w7+3#4,5,6
settle 20 => 4 yes
got 2 => data 
dirty => 1
read 0 20 => ok
read 1 21 => ok
read 2 22 => ok
queue => r20+3#10,11,12
dispatch => yes
busy => r20+3#10,11,12
tick => ok
end 0 => ok
got 0 => data 
got 1 => data 
write 0 3 straw => error 1
crash 1 => ok
got 0 => data 
read 0 3 => ok
settle 9 => 1 yes
got 0 => data hay
write 0 3 bran => ok
sync 0 => ok
clean => yes
dispatch => yes
fault 0 => ok
fault 0 => ok
fault 0 => ok
got 0 => error 9
write 0 3 x => ok
got 0 => error 9
read 0 3 => ok
got 0 => data bran
write 5 1 x => error 3
fly high => error 4`

// halves of a dialogue: what is said, and what must be answered.
func halves(t *testing.T, dialogue string) (lines, answers []string) {
	t.Helper()
	for _, line := range strings.Split(dialogue, "\n") {
		said, answered, ok := strings.Cut(line, " => ")
		if !ok {
			t.Fatalf("%q", line)
		}
		lines = append(lines, said)
		answers = append(answers, answered)
	}
	return lines, answers
}

// ran: lines are run, and these must be the answers.
func ran(t *testing.T, lines, want []string) {
	t.Helper()
	got, err := console.Run(lines)
	if err != nil || len(got) != len(lines) {
		t.Fatalf("%d lines: %d answers, %v", len(lines), len(got), err)
	}
	for i, line := range lines {
		if got[i] != want[i] {
			t.Errorf("line %d: %.50q => %q, want %q", i, line, got[i], want[i])
		}
	}
}

func TestL1TheDocumentsSession(t *testing.T) {
	lines, want := halves(t, session)
	ran(t, lines, want)
}
