package request_test

import (
	"math"
	"reflect"
	"slices"
	"strconv"
	"testing"

	"weighbridge/api"
	"weighbridge/request"
)

// reading: a request that reads, with as many tags as are given.
func reading(from, many, born int, tags ...int) api.Req {
	return api.Req{Span: api.Span{From: from, Many: many}, Tags: tags, Born: born}
}

// writing: a request that writes these data, one a sector.
func writing(from, born int, tags []int, data ...string) api.Req {
	return api.Req{Write: true, Span: api.Span{From: from, Many: len(data)}, Data: data, Tags: tags, Born: born}
}

// same: are two requests alike? (An empty list may be nil or not.)
func same(a, b api.Req) bool {
	return a.Write == b.Write && a.Span == b.Span && a.Born == b.Born && slices.Equal(a.Data, b.Data) && slices.Equal(a.Tags, b.Tags)
}

func TestB1Check(t *testing.T) {
	withData := func(r api.Req, data ...string) api.Req { r.Data = data; return r }
	for _, c := range []struct {
		what string
		r    api.Req
		want error
	}{
		{"reads one", reading(3, 1, 0, 1), nil},
		{"reads four, the last ones", reading(28, 4, 5, 1, 2, 3, 4), nil},
		{"writes one without bytes", writing(0, 0, []int{1}, ""), nil},
		{"writes four, of four bytes", writing(0, 0, []int{1}, "oats", "hay", "", "bran"), nil},
		{"more tags than sectors", reading(3, 1, 0, 1, 2, 3, 4), nil},
		{"fewer tags than sectors", reading(3, 4, 0, 1), nil},
		{"tags may be any numbers", reading(3, 2, 0, -7, -7), nil},
		{"reads, with Data that are empty and not nil", withData(reading(3, 1, 0, 1), []string{}...), nil},
		{"born at the last moment", reading(3, 1, api.MaxTime, 1), nil},

		{"five sectors", reading(3, 5, 0, 1), api.ErrBound},
		{"no sector", reading(3, 0, 0, 1), api.ErrBound},
		{"beyond the end", reading(31, 2, 0, 1), api.ErrBound},
		{"below the beginning", reading(-1, 2, 0, 1), api.ErrBound},

		{"writes too few", withData(reading(3, 2, 0, 1), "a"), api.ErrShape},
		{"reads, with Data", withData(reading(3, 1, 0, 1), "a"), api.ErrShape},
		{"reads, with Data without bytes", withData(reading(3, 1, 0, 1), ""), api.ErrShape},
		{"no tags", reading(3, 1, 0), api.ErrShape},
		{"five tags", reading(3, 1, 0, 1, 2, 3, 4, 5), api.ErrShape},

		{"born too soon", reading(3, 1, -1, 1), api.ErrBound},
		{"born too late", reading(3, 1, api.MaxTime+1, 1), api.ErrBound},
		{"five bytes", writing(3, 0, []int{1}, "a", "straw"), api.ErrBound},
		{"five bytes, of fewer runes", writing(3, 0, []int{1}, "\u00e4\u00e4x"), api.ErrBound},

		{"span ahead of shape", withData(reading(3, 5, 0), "a"), api.ErrBound},
		{"Data ahead of Born", withData(reading(3, 1, -1, 1), "a"), api.ErrShape},
		{"tags ahead of Born", reading(3, 1, -1), api.ErrShape},
		{"tags ahead of bytes", writing(3, 0, nil, "straw"), api.ErrShape},
		{"all wrong but the span", withData(reading(3, 1, -1), "straw"), api.ErrShape},
	} {
		if err := request.Check(c.r); err != c.want {
			t.Errorf("%s: Check(%v) = %v, want %v", c.what, c.r, err, c.want)
		}
	}
	for _, many := range []int{0, 1, 3, 4} {
		r := writing(3, 0, []int{1}, "a", "b")
		r.Data = slices.Repeat([]string{"a"}, many)
		if err := request.Check(r); err != api.ErrShape {
			t.Errorf("%d Data of 2 sectors: %v", many, err)
		}
	}
}

func TestB2MergeOfTwoThatGoTogether(t *testing.T) {
	for _, c := range []struct{ low, high, want api.Req }{
		{reading(3, 1, 5, 1), reading(4, 1, 7, 2), reading(3, 2, 5, 1, 2)},
		{reading(3, 1, 7, 1), reading(4, 1, 5, 2), reading(3, 2, 5, 1, 2)},
		{reading(3, 2, 7, 9, 8), reading(5, 2, 7, 1, 4), reading(3, 4, 7, 9, 8, 1, 4)},
		{reading(0, 3, 1, 6), reading(3, 1, 0, 2, 2, 2), reading(0, 4, 0, 6, 2, 2, 2)},
		{writing(30, 4, []int{3}, "a"), writing(31, 2, []int{1}, ""), writing(30, 2, []int{3, 1}, "a", "")},
		{writing(7, 4, []int{3}, "b", "c"), writing(9, 4, []int{1, 2}, "a", "d"), writing(7, 4, []int{3, 1, 2}, "b", "c", "a", "d")},
	} {
		for _, ab := range [][2]api.Req{{c.low, c.high}, {c.high, c.low}} {
			got, ok := request.Merge(ab[0], ab[1])
			if !ok || !same(got, c.want) {
				t.Errorf("Merge(%v, %v) = %v, %v, want %v", ab[0], ab[1], got, ok, c.want)
			}
			if err := request.Check(got); err != nil {
				t.Errorf("Merge(%v, %v) may not be: %v", ab[0], ab[1], err)
			}
		}
	}
}

func TestB2MergeOfTwoThatDont(t *testing.T) {
	for _, c := range []struct {
		what string
		a, b api.Req
	}{
		{"a gap", reading(3, 1, 0, 1), reading(5, 1, 0, 2)},
		{"the same sector", reading(3, 1, 0, 1), reading(3, 1, 0, 2)},
		{"one in the other", reading(3, 3, 0, 1), reading(4, 1, 0, 2)},
		{"they overlap", reading(3, 2, 0, 1), reading(4, 2, 0, 2)},
		{"one reads, one writes", reading(3, 1, 0, 1), writing(4, 0, []int{2}, "a")},
		{"one writes, one reads", writing(3, 0, []int{2}, "a"), reading(4, 1, 0, 1)},
		{"five sectors", reading(3, 2, 0, 1), reading(5, 3, 0, 2)},
		{"five tags", reading(3, 1, 0, 1, 2), reading(4, 1, 0, 3, 4, 5)},
		{"the end and the beginning", reading(31, 1, 0, 1), reading(0, 1, 0, 2)},
	} {
		for _, ab := range [][2]api.Req{{c.a, c.b}, {c.b, c.a}} {
			if got, ok := request.Merge(ab[0], ab[1]); ok || !reflect.ValueOf(got).IsZero() {
				t.Errorf("%s: Merge(%v, %v) = %v, %v", c.what, ab[0], ab[1], got, ok)
			}
		}
	}
}

func TestB3Part(t *testing.T) {
	r := api.Result{Req: reading(5, 3, 0, 1), Data: []string{"hay", "", "oats"}}
	short := api.Result{Req: r.Req, Data: []string{"hay"}}
	long := api.Result{Req: r.Req, Data: []string{"a", "b", "c", "d"}}
	for _, c := range []struct {
		r    api.Result
		at   int
		want string
		ok   bool
	}{
		{r, 5, "hay", true}, {r, 6, "", true}, {r, 7, "oats", true},
		{r, 4, "", false}, {r, 8, "", false}, {r, -1, "", false}, {r, 0, "", false},
		{r, math.MinInt, "", false}, {r, math.MaxInt, "", false},
		{short, 5, "hay", true}, {short, 6, "", false}, {short, 7, "", false},
		{long, 7, "c", true}, {long, 8, "", false},
		{api.Result{Req: r.Req}, 5, "", false},
		{api.Result{Data: r.Data}, 0, "", false},
		{api.Result{Req: reading(math.MaxInt, math.MaxInt, 0, 1), Data: r.Data}, math.MinInt, "", false},
		{api.Result{Req: reading(math.MinInt, math.MaxInt, 0, 1), Data: r.Data}, math.MaxInt, "", false},
	} {
		if got, ok := request.Part(c.r, c.at); got != c.want || ok != c.ok {
			t.Errorf("Part(%v, %d) = %q, %v", c.r, c.at, got, ok)
		}
	}
}

func TestB3Text(t *testing.T) {
	for _, c := range []struct {
		r    api.Req
		want string
	}{
		{reading(3, 1, 9, 1), "r3+1#1"},
		{writing(3, 9, []int{3, 2}, "hay", "oats"), "w3+2#3,2"},
		{reading(20, 3, 0, 10, 11, 12), "r20+3#10,11,12"},
		{api.Req{}, "r0+0#"},
		{api.Req{Write: true, Span: api.Span{From: -5, Many: -1}, Tags: []int{0, -7, 0}}, "w-5+-1#0,-7,0"},
	} {
		if got := request.Text(c.r, strconv.Itoa); got != c.want {
			t.Errorf("Text(%v) = %q, want %q", c.r, got, c.want)
		}
	}
	stars := func(n int) string { return "<" + strconv.Itoa(-n) + ">" }
	if got := request.Text(reading(3, 1, 9, 4, 5), stars); got != "r<-3>+<-1>#<-4>,<-5>" {
		t.Errorf("Text by other digits = %q", got)
	}
	if got := request.Text(reading(3, 1, 9, 4), nil); got != "r3+1#4" {
		t.Errorf("Text without digits = %q", got)
	}
}

func TestZ1NoCallPanics(t *testing.T) {
	odd := []int{math.MinInt, math.MinInt + 1, -1, 0, 1, 4, 31, 32, math.MaxInt - 1, math.MaxInt}
	for _, from := range odd {
		for _, many := range odd {
			for _, n := range odd {
				a := api.Req{Write: n > 0, Span: api.Span{From: from, Many: many}, Data: []string{"a"}, Tags: []int{n}, Born: n}
				b := api.Req{Write: n > 0, Span: api.Span{From: n, Many: many}, Tags: []int{n}, Born: from}
				if err := request.Check(a); err != nil && err != api.ErrBound && err != api.ErrShape {
					t.Errorf("Check(%v) = %v", a, err)
				}
				request.Merge(a, b)
				request.Merge(b, a)
				request.Part(api.Result{Req: a, Data: []string{"a", "b"}}, n)
				request.Text(a, strconv.Itoa)
			}
		}
	}
}

// behind: a list with other things behind it in memory.
func behind[T any](l []T, others ...T) []T {
	return append(slices.Clone(l), others...)[:len(l)]
}

func TestZ2MergeKeepsToItsLists(t *testing.T) {
	data, tags := behind([]string{"a"}, "x", "y", "z"), behind([]int{1}, 77, 78, 79)
	low := writing(3, 0, tags, data...)
	low.Data = data
	high := writing(4, 0, []int{2}, "b")
	got, ok := request.Merge(low, high)
	want := writing(3, 0, []int{1, 2}, "a", "b")
	if !ok || !same(got, want) {
		t.Fatalf("Merge = %v, %v", got, ok)
	}
	if !slices.Equal(data[:4], []string{"a", "x", "y", "z"}) || !slices.Equal(tags[:4], []int{1, 77, 78, 79}) {
		t.Errorf("what was handed in is written into: %v %v", data[:4], tags[:4])
	}
	got.Data[0], got.Tags[0], got.Data[1], got.Tags[1] = "q", 99, "q", 99
	if data[0] != "a" || tags[0] != 1 || high.Data[0] != "b" || high.Tags[0] != 2 {
		t.Error("what comes out isn't fresh")
	}
}

func TestZ2PartReadsNothingBehind(t *testing.T) {
	r := api.Result{Req: reading(5, 2, 0, 1), Data: behind([]string{"a"}, "x")}
	if got, ok := request.Part(r, 6); got != "" || ok {
		t.Errorf("Part = %q, %v: it stands behind the list", got, ok)
	}
}

func TestZ2CheckReadsNothingBehind(t *testing.T) {
	r := writing(5, 0, behind([]int{1, 2, 3, 4}, 5), "a")
	r.Data = behind([]string{"a"}, "straw")
	if err := request.Check(r); err != nil {
		t.Errorf("Check = %v", err)
	}
}
