package script_test

import (
	"math"
	"math/rand"
	"regexp"
	"slices"
	"strings"
	"testing"

	"weighbridge/api"
	"weighbridge/script"
)

type step = script.Step

// The words, by the parts that their steps have.
var (
	withBoth = []string{"read", "write"}
	withA    = []string{"sync", "got", "end", "fault", "settle", "crash"}
	without  = []string{"tick", "clean", "dispatch", "round", "queue", "busy", "dirty"}
)

// wrongWords are none of these.
var wrongWords = []string{"", " ", "-", "fly", "Read", "READ", "rea", "reads", "read ", " read", "read\n", "write\x00", "0", "error", "waits", "peek", "flush", "ask", "start", "sync got", "tick,clean"}

// odd numbers: the edges of what may be, and of int.
var odd = []int{math.MinInt, math.MinInt + 1, -1000, -1, 1000, 1001, 9999, math.MaxInt - 1, math.MaxInt}

func check(t *testing.T, s step, want error) {
	t.Helper()
	if got := script.Check(s); got != want {
		t.Errorf("Check(%+v) = %v, want %v", s, got, want)
	}
}

// each step that may be, of some numbers and data.
func each(do func(s step)) {
	numbers := []int{0, 1, 2, 9, 10, 11, 99, 100, 101, 998, 999}
	data := []string{"", "a", "hay", "--", "a-", "-a", "0", "=>", "\t", "\r", "\x00", "\xff", "\xc3", "ä", "a\vb", "123456789", strings.Repeat("\xff", 9)}
	for _, w := range without {
		do(step{Word: w})
	}
	for _, a := range numbers {
		for _, w := range withA {
			do(step{Word: w, A: a})
		}
		for _, b := range numbers {
			do(step{Word: "read", A: a, B: b})
			for _, d := range data {
				do(step{Word: "write", A: a, B: b, Data: d})
			}
		}
	}
}

func TestJ1CheckOfStepsThatMayBe(t *testing.T) {
	each(func(s step) { check(t, s, nil) })
}

func TestJ1CheckOfWrongWords(t *testing.T) {
	for _, w := range wrongWords {
		check(t, step{Word: w}, api.ErrShape)
		check(t, step{Word: w, A: 1, B: 2, Data: "a"}, api.ErrShape)
	}
	for _, w := range slices.Concat(withBoth, withA, without) {
		check(t, step{Word: w + "s"}, api.ErrShape)
		check(t, step{Word: w + " "}, api.ErrShape)
		check(t, step{Word: w[1:]}, api.ErrShape)
		check(t, step{Word: strings.ToUpper(w)}, api.ErrShape)
	}
}

func TestJ1CheckOfPartsThatAWordHasNot(t *testing.T) {
	for _, n := range slices.Concat([]int{1, 999}, odd) {
		for _, w := range without {
			check(t, step{Word: w, A: n}, api.ErrShape)
		}
		for _, w := range slices.Concat(withA, without) {
			check(t, step{Word: w, B: n}, api.ErrShape)
		}
	}
	for _, d := range []string{"a", "-", " ", "\n", "\x00", "0", "0123456789"} {
		check(t, step{Word: "read", Data: d}, api.ErrShape)
		for _, w := range slices.Concat(withA, without) {
			check(t, step{Word: w, Data: d}, api.ErrShape)
		}
	}
}

func TestJ1CheckOfNumbers(t *testing.T) {
	for _, n := range odd {
		for _, w := range slices.Concat(withBoth, withA) {
			check(t, step{Word: w, A: n}, api.ErrBound)
		}
		for _, w := range withBoth {
			check(t, step{Word: w, B: n}, api.ErrBound)
			check(t, step{Word: w, A: n, B: n}, api.ErrBound)
		}
	}
	for n := range 1000 {
		check(t, step{Word: "end", A: n}, nil)
		check(t, step{Word: "read", B: n}, nil)
	}
}

func TestJ1CheckOfData(t *testing.T) {
	for _, c := range []struct {
		data string
		want error
	}{
		{"123456789", nil},
		{"1234567890", api.ErrBound},
		{strings.Repeat("a", 1000), api.ErrBound},
		{"äöüßa", nil},          // 9 bytes
		{"äöüßä", api.ErrBound}, // 5 letters, but 10 bytes
		{"-", api.ErrShape},
		{"--", nil},
		{" ", api.ErrShape},
		{"a b", api.ErrShape},
		{" a", api.ErrShape},
		{"a ", api.ErrShape},
		{"\n", api.ErrShape},
		{"a\nb", api.ErrShape},
		{"1234567\n9", api.ErrShape},
		{"12345678 ", api.ErrShape},
		{"\u00a0", nil}, // no blank: no byte 32
		{"\u010a\r\t\v", nil},
	} {
		check(t, step{Word: "write", Data: c.data}, c.want)
		check(t, step{Word: "write", A: 999, B: 999, Data: c.data}, c.want)
	}
	for c := range 256 {
		data := string([]byte{'a', byte(c), 'z'})
		var want error
		if c == 32 || c == 10 {
			want = api.ErrShape
		}
		check(t, step{Word: "write", Data: data}, want)
	}
}

func TestJ1WhichErrorIsTold(t *testing.T) {
	for _, c := range []struct {
		s    step
		want error
	}{
		{step{Word: "fly", A: -1}, api.ErrShape},
		{step{Word: "fly", Data: "0123456789"}, api.ErrShape},
		{step{Word: "tick", A: 1000}, api.ErrShape},
		{step{Word: "sync", A: -1, B: 1}, api.ErrShape},
		{step{Word: "sync", A: 1000, Data: "a"}, api.ErrShape},
		{step{Word: "read", A: -1, Data: "a"}, api.ErrShape},
		{step{Word: "read", Data: "0123456789"}, api.ErrShape},
		{step{Word: "write", A: -1, Data: "-"}, api.ErrBound},
		{step{Word: "write", B: 1000, Data: "a b"}, api.ErrBound},
		{step{Word: "write", Data: "0123 56789"}, api.ErrBound},
		{step{Word: "write", Data: "012345678\n"}, api.ErrBound},
	} {
		check(t, c.s, c.want)
	}
}

func TestJ2Text(t *testing.T) {
	for _, c := range []struct {
		s    step
		want string
	}{
		{step{Word: "read"}, "read 0 0"},
		{step{Word: "read", A: 1, B: 31}, "read 1 31"},
		{step{Word: "read", A: 999, B: 100}, "read 999 100"},
		{step{Word: "write", A: 2, B: 3, Data: "hay"}, "write 2 3 hay"},
		{step{Word: "write", B: 10}, "write 0 10 -"},
		{step{Word: "write", A: 999, B: 999, Data: "123456789"}, "write 999 999 123456789"},
		{step{Word: "write", Data: "--"}, "write 0 0 --"},
		{step{Word: "write", Data: "\xff\x00"}, "write 0 0 \xff\x00"},
		{step{Word: "sync"}, "sync 0"},
		{step{Word: "got", A: 2}, "got 2"},
		{step{Word: "end", A: 10}, "end 10"},
		{step{Word: "fault", A: 1}, "fault 1"},
		{step{Word: "settle", A: 20}, "settle 20"},
		{step{Word: "crash", A: 999}, "crash 999"},
		{step{Word: "tick"}, "tick"},
		{step{Word: "clean"}, "clean"},
		{step{Word: "dispatch"}, "dispatch"},
		{step{Word: "round"}, "round"},
		{step{Word: "queue"}, "queue"},
		{step{Word: "busy"}, "busy"},
		{step{Word: "dirty"}, "dirty"},
	} {
		if got, err := script.Text(c.s); got != c.want || err != nil {
			t.Errorf("Text(%+v) = %q, %v, want %q", c.s, got, err, c.want)
		}
	}
}

// wrongSteps, one of each kind.
var wrongSteps = []step{
	{},
	{Word: "fly"},
	{Word: "tick", A: 1},
	{Word: "sync", B: 1},
	{Word: "read", Data: "a"},
	{Word: "read", A: 1000},
	{Word: "read", B: -1},
	{Word: "write", Data: "0123456789"},
	{Word: "write", Data: "a b"},
	{Word: "write", Data: "a\n"},
	{Word: "write", Data: "-"},
}

func TestJ2TextTellsChecksError(t *testing.T) {
	for _, s := range wrongSteps {
		want := script.Check(s)
		if got, err := script.Text(s); got != "" || err != want || err == nil {
			t.Errorf("Text(%+v) = %q, %v, want %v", s, got, err, want)
		}
	}
}

func TestJ2ParseReadsWhatTextTells(t *testing.T) {
	seen := map[string]bool{}
	each(func(s step) {
		text, err := script.Text(s)
		if err != nil || seen[text] {
			t.Errorf("Text(%+v) = %q, %v; told ahead: %v", s, text, err, seen[text])
		}
		seen[text] = true
		if got, err := script.Parse(text); got != s || err != nil {
			t.Errorf("Parse(%q) = %+v, %v, want %+v", text, got, err, s)
		}
	})
}

// unread: a text must be no step's.
func unread(t *testing.T, text string) {
	t.Helper()
	if got, err := script.Parse(text); got != (step{}) || err != api.ErrText {
		t.Errorf("Parse(%q) = %+v, %v, want ErrText", text, got, err)
	}
}

func TestJ2ParseOfWrongTexts(t *testing.T) {
	for _, text := range []string{
		"", " ", "-", "\n", "fly", "fly high", "0", "1 2",
		"read", "read ", "read 1", "read 1 ", "read  1 2", "read 1  2", " read 1 2", "read 1 2 ", "read 1 2\n", "read 1 2 3", "read 1 2 -", "read 1,2", "read\t1 2",
		"read x 1", "read 1 x", "read - 1", "read -1 1", "read +1 1", "read 1 +1", "read 01 1", "read 1 01", "read 00 0", "read -0 0", "read 1000 1", "read 1 1000", "read 1e2 1", "read 0x1 1", "read 1_0 1", "read 1. 1", "read ١ 1", "read 99999999999999999999 1", "read 1 18446744073709551616",
		"write", "write 1", "write 1 2", "write 1 2 ", "write 1 2  ", "write 1 2 a ", "write 1 2  a", "write 1 2 a b", "write 1 2 - ", "write 1 2 1234567890", "write 1 2 a\nb", "write 1 2 a\n", "write a 1 2", "write 1 a 2", "write -1 2 a", "write 1 1000 a", "write 01 2 a", "write 1 02 a", "write 1 2\ta",
		"sync", "sync ", "sync x", "sync 1 2", "sync 1 ", "sync 01", "sync -", "sync -1", "sync 1000", "Sync 1", "sync1",
		"got", "end", "fault", "settle", "crash", "end 1 0", "fault 0 -", "settle 1000", "crash 0x1",
		"tick 1", "tick ", " tick", "tick -", "tick 0", "tick\n", "tickle", "tic", "TICK", "clean 0", "dispatch 1", "round 0", "queue -", "busy ", "dirty 0",
		"read 1 2\nread 1 2", "tick tick",
	} {
		unread(t, text)
	}
	for _, w := range wrongWords {
		unread(t, w)
		unread(t, w+" 1")
		unread(t, w+" 1 2")
		unread(t, w+" 1 2 a")
	}
	for c := range 256 {
		if b := string([]byte{byte(c)}); c < '1' || c > '9' {
			unread(t, "sync "+b+"1")
		} else if got, err := script.Parse("sync " + b + "1"); got.A != 10*(c-'0')+1 || err != nil {
			t.Errorf("Parse(sync %s1) = %+v, %v", b, got, err)
		}
	}
}

// mayBe: the form of a step's text, told in another way.
var mayBe = regexp.MustCompile(strings.ReplaceAll(
	`^(read N N|write N N [^ \n]{1,9}|(sync|got|end|fault|settle|crash) N|tick|clean|dispatch|round|queue|busy|dirty)$`,
	"N", "(0|[1-9][0-9]{0,2})"))

// TestJ2ParseOfAlmostTexts: of steps' texts in which something was changed.
func TestJ2ParseOfAlmostTexts(t *testing.T) {
	var texts []string
	each(func(s step) {
		if text, _ := script.Text(s); strings.Trim(text, "\xff\xc3ä") == text {
			texts = append(texts, text)
		}
	})
	die := rand.New(rand.NewSource(1))
	bits := []string{"", " ", "  ", "0", "1", "9", "-", "+", "a", "\n", "d", "read", "write ", "tick", " 1", "00"}
	read := 0
	for range 200000 {
		text := texts[die.Intn(len(texts))]
		for range 1 + die.Intn(2) {
			i := die.Intn(len(text) + 1)
			j := min(len(text), i+die.Intn(3))
			text = text[:i] + bits[die.Intn(len(bits))] + text[j:]
		}
		s, err := script.Parse(text)
		if !mayBe.MatchString(text) {
			unread(t, text)
			continue
		}
		read++
		if err != nil {
			t.Fatalf("Parse(%q): %v", text, err)
		}
		if back, err := script.Text(s); back != text || err != nil {
			t.Fatalf("Parse(%q) = %+v, whose text is %q, %v", text, s, back, err)
		}
	}
	if read < 20000 {
		t.Errorf("just %d of them are steps' texts", read)
	}
}

func TestZ1NoCallPanics(t *testing.T) {
	texts := []string{"", " ", "-", "a", "\x00", "\xff\xfe", "read", "write", "sync", "tick", strings.Repeat("9", 100000), strings.Repeat(" ", 100000), strings.Repeat("read ", 10000)}
	numbers := slices.Concat([]int{0, 1, 999}, odd)
	for _, w := range texts {
		for _, d := range texts {
			for _, a := range numbers {
				for _, b := range numbers {
					s := step{Word: w, A: a, B: b, Data: d}
					err := script.Check(s)
					text, same := script.Text(s)
					if same != err || (err != nil) != (text == "") {
						t.Fatalf("Text(%+v) = %q, %v; Check: %v", s, text, same, err)
					}
				}
			}
			for _, text := range []string{w + d, w + " " + d, w + " 1 2 " + d, w + " " + d + " " + d} {
				if s, err := script.Parse(text); err != nil && s != (step{}) {
					t.Fatalf("Parse(%.99q) = %+v, %v", text, s, err)
				}
			}
		}
	}
}

// TestZ2NothingIsKept: what is answered hangs on the arguments alone.
func TestZ2NothingIsKept(t *testing.T) {
	for range 3 {
		if s, err := script.Parse("write 1 2 hay"); s != (step{"write", 1, 2, "hay"}) || err != nil {
			t.Errorf("%+v, %v", s, err)
		}
		if s, err := script.Parse("write 1 2 -"); s != (step{"write", 1, 2, ""}) || err != nil {
			t.Errorf("%+v, %v", s, err)
		}
		unread(t, "write 1 2")
		if s, err := script.Parse("sync 3"); s != (step{Word: "sync", A: 3}) || err != nil {
			t.Errorf("%+v, %v", s, err)
		}
	}
}

func TestZ3ErrorsAreBare(t *testing.T) {
	for _, s := range wrongSteps {
		if _, ok := script.Check(s).(api.Errno); !ok {
			t.Errorf("Check(%+v) = %v", s, script.Check(s))
		}
		text, err := script.Text(s)
		if _, ok := err.(api.Errno); !ok {
			t.Errorf("Text(%+v) = %q, %v", s, text, err)
		}
	}
	_, err := script.Parse("fly")
	if _, ok := err.(api.Errno); !ok {
		t.Errorf("Parse: %v", err)
	}
}
