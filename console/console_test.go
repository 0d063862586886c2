package console_test

import (
	"slices"
	"strings"
	"testing"

	"weighbridge/api"
	"weighbridge/console"
	"weighbridge/player"
	"weighbridge/script"
)

func TestL1HowManyLines(t *testing.T) {
	for _, n := range []int{0, 1, 2, 89, api.MaxLines} {
		ran(t, slices.Repeat([]string{"tick"}, n), slices.Repeat([]string{"ok"}, n))
	}
	for _, n := range []int{api.MaxLines + 1, 92, 1000} {
		for _, line := range []string{"tick", "", "fly"} {
			if got, err := console.Run(slices.Repeat([]string{line}, n)); len(got) != 0 || err != api.ErrMany {
				t.Errorf("%d lines: %q, %v, want ErrMany", n, got, err)
			}
		}
	}
	ran(t, nil, nil)
}

func TestL1LinesThatCannotBeRead(t *testing.T) {
	lines := []string{
		"", " ", "fly", "fly high", "read", "read 1", "read x 1", "read 0 3 ", " read 0 3", "read 0  3", "read 00 3", "read 0 1000", "write 1 2", "write 1 2 a b", "write 1 2 0123456789", "tick 1", "tick\n", "\xff", "error 4",
		strings.Repeat("x", api.MaxLine), strings.Repeat("x", api.MaxLine+1), strings.Repeat("tick ", 20), "tick" + strings.Repeat(" ", api.MaxLine), strings.Repeat("9", 1000000),
		"read 0 " + strings.Repeat("0", api.MaxLine-8) + "3", "read 0 " + strings.Repeat("0", api.MaxLine) + "3",
	}
	ran(t, lines, slices.Repeat([]string{"error 4"}, len(lines)))
}

// TestL1TheLongestLine: no text of a step is longer than a line may be.
func TestL1TheLongestLine(t *testing.T) {
	ran(t,
		[]string{"write 999 999 123456789", "write 0 999 123456789", "dispatch"},
		[]string{"error 3", "error 1", "no"})
}

// TestL1GoesOnBehindAWrongLine: what can't be read does nothing.
func TestL1GoesOnBehindAWrongLine(t *testing.T) {
	lines, want := halves(t, `write 0 3 hay => ok
fly => error 4
read 1 3 => ok
tick tock => error 4
got 1 => data hay
write 9 9 9 => error 3
dirty => 1`)
	ran(t, lines, want)
}

// TestL1AsTheyArePlayed: over a new player, one after the other.
func TestL1AsTheyArePlayed(t *testing.T) {
	lines, _ := halves(t, session)
	for i := range lines {
		turned := slices.Concat(lines[i:], lines[:i])
		p := player.New()
		var want []string
		for _, line := range turned {
			if x, err := script.Parse(line); err != nil {
				want = append(want, "error 4")
			} else {
				want = append(want, p.Play(x))
			}
		}
		ran(t, turned, want)
	}
}

func TestL1EachRunHasANewPlayer(t *testing.T) {
	for range 3 {
		ran(t, []string{"dirty", "read 0 3", "queue", "write 1 4 hay", "dirty"}, []string{"0", "ok", "r3+1#1", "ok", "1"})
	}
}

// TestW2WhatWasSyncedStays: line by line, behind a crash that keeps nothing else.
func TestW2WhatWasSyncedStays(t *testing.T) {
	lines, want := halves(t, `write 0 3 hay => ok
sync 0 => ok
settle 9 => 1 yes
write 0 3 oats => ok
write 0 5 oats => ok
write 0 7 oats => ok
settle 9 => 0 yes
clean => yes
settle 9 => 2 yes
crash 0 => ok
read 0 3 => ok
read 1 5 => ok
settle 9 => 2 yes
got 0 => data hay
got 1 => data `)
	ran(t, lines, want)
}

func TestZ1NoCallPanics(t *testing.T) {
	for c := range 256 {
		b := string([]byte{byte(c)})
		for _, word := range []string{"", "read", "write", "sync", "settle", "crash", "tick", "busy"} {
			lines := []string{b, word + b, word + " " + b, word + " 1" + b, word + " 1 2" + b, word + " 1 2 " + b, b + word}
			if got, err := console.Run(lines); len(got) != len(lines) || err != nil || slices.Contains(got, "") {
				t.Fatalf("%q: %q, %v", lines, got, err)
			}
		}
	}
}

func TestZ2TheLinesStay(t *testing.T) {
	lines, want := halves(t, session)
	whole := append(slices.Clone(lines), "crash 0", "crash 0")
	handed := whole[:len(lines)]
	got, err := console.Run(handed)
	if err != nil || !slices.Equal(got, want) {
		t.Errorf("%q, %v", got, err)
	}
	if !slices.Equal(handed, lines) || !slices.Equal(whole[len(lines):], []string{"crash 0", "crash 0"}) {
		t.Errorf("the lines are %q", whole)
	}
}

func TestZ2WhatComesOutIsFresh(t *testing.T) {
	lines := []string{"dirty", "queue", "busy"}
	first, _ := console.Run(lines)
	second, _ := console.Run(lines)
	for i := range first {
		first[i] = "changed"
	}
	if want := []string{"0", "-", "-"}; !slices.Equal(second, want) || !slices.Equal(lines, []string{"dirty", "queue", "busy"}) {
		t.Errorf("%q; the lines are %q", second, lines)
	}
	third, _ := console.Run(lines)
	if !slices.Equal(third, second) {
		t.Errorf("%q, ahead of it %q", third, second)
	}
}

func TestZ3ErrorsAreBare(t *testing.T) {
	_, err := console.Run(make([]string, api.MaxLines+1))
	if e, ok := err.(api.Errno); !ok || e != api.ErrMany {
		t.Errorf("%v", err)
	}
}
