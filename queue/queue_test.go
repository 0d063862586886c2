package queue_test

import (
	"fmt"
	"math"
	"slices"
	"strconv"
	"strings"
	"testing"

	"weighbridge/api"
	"weighbridge/queue"
	"weighbridge/request"
)

func reading(from, many, born int, tags ...int) api.Req {
	return api.Req{Span: api.Span{From: from, Many: many}, Tags: tags, Born: born}
}

func writing(from, born, tag int, data ...string) api.Req {
	return api.Req{Write: true, Span: api.Span{From: from, Many: len(data)}, Data: data, Tags: []int{tag}, Born: born}
}

// told: all of a list that is to be seen.
func told(l []api.Req) string {
	var out []string
	for _, r := range l {
		out = append(out, fmt.Sprintf("%s%q@%d", request.Text(r, strconv.Itoa), r.Data, r.Born))
	}
	return strings.Join(out, " ")
}

// full: Depth requests that read, of which no two go together.
func full() (l []api.Req) {
	for i := range api.Depth {
		l = append(l, reading(i*3, 1, i, i+1))
	}
	return l
}

func TestC1Add(t *testing.T) {
	for _, c := range []struct {
		what string
		l    []api.Req
		r    api.Req
		want []api.Req
	}{
		{"the first one", nil, reading(3, 1, 5, 1), []api.Req{reading(3, 1, 5, 1)}},
		{"behind the others, though it is lower, and older",
			[]api.Req{reading(9, 1, 5, 1), writing(20, 6, 2, "a")}, reading(3, 1, 1, 3),
			[]api.Req{reading(9, 1, 5, 1), writing(20, 6, 2, "a"), reading(3, 1, 1, 3)}},
		{"with one that is lower",
			[]api.Req{reading(9, 1, 5, 1), reading(3, 1, 5, 2)}, reading(4, 1, 7, 3),
			[]api.Req{reading(9, 1, 5, 1), reading(3, 2, 5, 2, 3)}},
		{"with one that is higher, in its place",
			[]api.Req{reading(9, 1, 5, 1), reading(3, 1, 5, 2)}, reading(8, 1, 4, 3),
			[]api.Req{reading(8, 2, 4, 3, 1), reading(3, 1, 5, 2)}},
		{"with the first one of two, and the other one stays",
			[]api.Req{reading(5, 1, 5, 1), reading(3, 1, 5, 2)}, reading(4, 1, 7, 3),
			[]api.Req{reading(4, 2, 5, 3, 1), reading(3, 1, 5, 2)}},
		{"with the second one, if the first one is of the other kind",
			[]api.Req{writing(5, 5, 1, "a"), reading(3, 1, 5, 2)}, reading(4, 1, 7, 3),
			[]api.Req{writing(5, 5, 1, "a"), reading(3, 2, 5, 2, 3)}},
		{"with the second one, if the first one is too great",
			[]api.Req{reading(5, 4, 5, 1), reading(3, 1, 5, 2)}, reading(4, 1, 7, 3),
			[]api.Req{reading(5, 4, 5, 1), reading(3, 2, 5, 2, 3)}},
		{"with the second one, if the first one has too many tags",
			[]api.Req{reading(5, 1, 5, 1, 1, 1, 1), reading(3, 1, 5, 2)}, reading(4, 1, 7, 3),
			[]api.Req{reading(5, 1, 5, 1, 1, 1, 1), reading(3, 2, 5, 2, 3)}},
		{"next to one of the other kind alone",
			[]api.Req{reading(3, 1, 5, 1)}, writing(4, 7, 3, "a"),
			[]api.Req{reading(3, 1, 5, 1), writing(4, 7, 3, "a")}},
		{"the last one for which there is room",
			full()[:api.Depth-1], reading(30, 1, 9, 9),
			append(full()[:api.Depth-1], reading(30, 1, 9, 9))},
		{"without room, if it goes together with one",
			full(), reading(15+1, 1, 9, 9),
			append(full()[:api.Depth-1], reading(15, 2, api.Depth-1, api.Depth, 9))},
	} {
		got, err := queue.Add(c.l, c.r)
		if err != nil || told(got) != told(c.want) {
			t.Errorf("%s: %s, %v, want %s", c.what, told(got), err, told(c.want))
		}
	}
}

func TestC1AddRefuses(t *testing.T) {
	bad := reading(3, 1, 0)
	for _, c := range []struct {
		what string
		l    []api.Req
		r    api.Req
		want error
	}{
		{"no tags", nil, bad, api.ErrShape},
		{"a wrong span", nil, reading(31, 2, 0, 1), api.ErrBound},
		{"too many bytes", nil, writing(3, 0, 1, "straw"), api.ErrBound},
		{"wrong, and it meets one", []api.Req{reading(3, 1, 0, 1)}, bad, api.ErrShape},
		{"wrong, and there is no room", full(), reading(30, 1, -1, 1), api.ErrBound},
		{"the same sector", []api.Req{reading(9, 1, 0, 1), reading(3, 1, 0, 1)}, reading(3, 1, 0, 2), api.ErrBusy},
		{"one of its sectors", []api.Req{reading(3, 2, 0, 1)}, reading(4, 2, 0, 2), api.ErrBusy},
		{"a sector of one of the other kind", []api.Req{reading(3, 2, 0, 1)}, writing(3, 0, 2, "a"), api.ErrBusy},
		{"it meets one, and would go together with the one ahead", []api.Req{reading(2, 1, 0, 1), reading(3, 1, 0, 1)}, reading(3, 1, 0, 2), api.ErrBusy},
		{"it meets one, and there is no room", full(), reading(15, 1, 0, 2), api.ErrBusy},
		{"no room", full(), reading(30, 1, 9, 9), api.ErrFull},
		{"no room, next to one of the other kind", full(), writing(16, 9, 9, "a"), api.ErrFull},
		{"no room for more than there is", append(full(), reading(20, 1, 0, 7)), reading(30, 1, 9, 9), api.ErrFull},
	} {
		if got, err := queue.Add(c.l, c.r); err != c.want || len(got) != 0 {
			t.Errorf("%s: %s, %v, want %v", c.what, told(got), err, c.want)
		}
	}
}

func TestC1Take(t *testing.T) {
	for i := range api.Depth {
		others, it := queue.Take(full(), i)
		if told(others) != told(slices.Delete(full(), i, i+1)) || told([]api.Req{it}) != told(full()[i:i+1]) {
			t.Errorf("Take %d: %s, %s", i, told(others), told([]api.Req{it}))
		}
	}
	one := []api.Req{writing(3, 4, 5, "a")}
	if others, it := queue.Take(one, 0); len(others) != 0 || told([]api.Req{it}) != told(one) {
		t.Errorf("Take of one: %s, %v", told(others), it)
	}
}

func TestC2Oldest(t *testing.T) {
	l := []api.Req{
		reading(9, 1, 7, 1), writing(5, 3, 2, "a"), reading(20, 1, 4, 3),
		writing(30, 3, 4, "b"), reading(2, 1, 4, 5), writing(0, 8, 6, "c"),
	}
	for _, c := range []struct {
		l     []api.Req
		write bool
		want  int
	}{
		{l, false, 2}, {l, true, 1},
		{l[:2], false, 0}, {l[2:], true, 1}, {l[4:], true, 1},
		{l[:1], true, -1}, {l[1:2], false, -1},
		{nil, true, -1}, {nil, false, -1}, {[]api.Req{}, false, -1},
		{[]api.Req{reading(1, 1, api.MaxTime, 1)}, false, 0},
		{[]api.Req{reading(1, 1, api.MaxTime, 1), reading(3, 1, 0, 1)}, false, 1},
	} {
		if got := queue.Oldest(c.l, c.write); got != c.want {
			t.Errorf("Oldest(%s, %v) = %d, want %d", told(c.l), c.write, got, c.want)
		}
	}
}

func TestC2From(t *testing.T) {
	l := []api.Req{
		reading(9, 2, 7, 1), writing(5, 3, 2, "a"), reading(20, 1, 4, 3),
		writing(31, 3, 4, "b"), reading(2, 1, 4, 5), writing(0, 8, 6, "c"),
	}
	for _, c := range []struct {
		write    bool
		at, want int
	}{
		{false, 0, 4}, {false, 2, 4}, {false, 3, 0}, {false, 9, 0}, {false, 10, 2}, {false, 20, 2}, {false, 21, -1},
		{true, 0, 5}, {true, 1, 1}, {true, 5, 1}, {true, 6, 3}, {true, 31, 3}, {true, 32, -1},
		{false, -1, 4}, {true, math.MinInt, 5}, {false, math.MaxInt, -1},
	} {
		if got := queue.From(l, c.write, c.at); got != c.want {
			t.Errorf("From(%v, %d) = %d, want %d", c.write, c.at, got, c.want)
		}
	}
	if queue.From(nil, true, 0) != -1 || queue.From(l[:1], true, 0) != -1 || queue.From(l[1:2], false, 0) != -1 {
		t.Error("From: there is none")
	}
}

func TestZ1NoCallPanics(t *testing.T) {
	odd := []int{math.MinInt, -1, 0, 1, 31, 32, math.MaxInt}
	for _, from := range odd {
		for _, many := range odd {
			r := api.Req{Span: api.Span{From: from, Many: many}, Tags: []int{1}, Born: from}
			l := []api.Req{r, {}, {Write: true, Data: []string{"a"}}}
			queue.Add(l, reading(3, 1, 0, 1))
			if many != 1 || from < 0 || from >= api.Sectors {
				if got, err := queue.Add(nil, r); err != api.ErrBound || len(got) != 0 {
					t.Errorf("Add(%v) = %v, %v", r, got, err)
				}
			}
			queue.Oldest(l, true)
			queue.From(l, false, from)
			if from < 0 || from >= len(l) {
				if others, it := queue.Take(l, from); len(others) != len(l) || it.Tags != nil {
					t.Errorf("Take(%d) = %v, %v", from, others, it)
				}
			}
		}
	}
	if others, _ := queue.Take(nil, 0); len(others) != 0 {
		t.Errorf("Take of none: %v", others)
	}
}

// tail: what stands behind a list in memory must stay, and be nobody's.
func tail(l []api.Req) []api.Req {
	return append(slices.Clone(l), reading(30, 1, -9, 77), writing(28, -9, 78, "x"))[:len(l)]
}

func TestZ2ListsThatAreHandedIn(t *testing.T) {
	calls := map[string]func(l []api.Req) []api.Req{
		"Add behind": func(l []api.Req) []api.Req { out, _ := queue.Add(l, reading(30, 1, 9, 9)); return out },
		"Add to one": func(l []api.Req) []api.Req { out, _ := queue.Add(l, reading(1, 1, 9, 9)); return out },
		"Add wrong":  func(l []api.Req) []api.Req { out, _ := queue.Add(l, reading(0, 1, 9, 9)); return out },
		"Take first": func(l []api.Req) []api.Req { out, _ := queue.Take(l, 0); return out },
		"Take last":  func(l []api.Req) []api.Req { out, _ := queue.Take(l, len(l)-1); return out },
		"Take none":  func(l []api.Req) []api.Req { out, _ := queue.Take(l, len(l)); return out },
	}
	for name, call := range calls {
		l := tail(full()[:4])
		before := told(l[:6])
		want := told(call(slices.Clip(full()[:4])))
		got := call(l)
		if told(got) != want {
			t.Errorf("%s: %s, want %s", name, told(got), want)
		}
		for i := range got[:cap(got)] {
			got[:cap(got)][i] = reading(31, 1, 99, 99)
		}
		if told(l[:6]) != before {
			t.Errorf("%s: what was handed in is written into, or comes out: %s", name, told(l[:6]))
		}
	}
}

func TestZ2ListsInRequests(t *testing.T) {
	data := append(make([]string, 0, 4), "a")
	tags := append(make([]int, 0, 4), 1)
	l := []api.Req{{Write: true, Span: api.Span{From: 3, Many: 1}, Data: data, Tags: tags}}
	if _, err := queue.Add(l, writing(4, 0, 2, "b")); err != nil {
		t.Fatal(err)
	}
	if data[:2][1] != "" || tags[:2][1] != 0 {
		t.Errorf("what stands behind a request's lists is written into: %q %d", data[:2], tags[:2])
	}
}

func TestZ2NothingBehindIsRead(t *testing.T) {
	l := tail([]api.Req{reading(3, 1, 5, 1)})
	if queue.Oldest(l, false) != 0 || queue.Oldest(l, true) != -1 || queue.From(l, false, 4) != -1 || queue.From(l, true, 0) != -1 {
		t.Error("what stands behind the list is read")
	}
}
