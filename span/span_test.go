package span_test

import (
	"math"
	"testing"

	"weighbridge/api"
	"weighbridge/span"
)

// all spans that may be.
func all() (l []api.Span) {
	for from := range api.Sectors {
		for many := 1; many <= api.Sectors-from; many++ {
			l = append(l, api.Span{From: from, Many: many})
		}
	}
	return l
}

// sectors of a span, counted one by one, a bit each.
func sectors(s api.Span) (set uint64) {
	for i := range s.Many {
		set |= 1 << (s.From + i)
	}
	return set
}

// odd numbers: the edges of the sectors, and of int.
var odd = []int{math.MinInt, math.MinInt + 1, -1, 0, 1, 2, api.Sectors - 1, api.Sectors, api.Sectors + 1, math.MaxInt - 1, math.MaxInt}

func TestA1CheckOfSpansThatMayBe(t *testing.T) {
	for _, s := range all() {
		for _, most := range []int{s.Many, s.Many + 1, math.MaxInt} {
			if err := span.Check(s, most); err != nil {
				t.Errorf("Check(%v, %d) = %v", s, most, err)
			}
		}
		if err := span.Check(s, s.Many-1); err != api.ErrBound {
			t.Errorf("Check(%v, %d) = %v, want ErrBound", s, s.Many-1, err)
		}
	}
}

func TestA1CheckOfWrongSpans(t *testing.T) {
	for _, c := range []struct {
		s    api.Span
		most int
	}{
		{api.Span{From: -1, Many: 1}, 4},
		{api.Span{From: -1, Many: 2}, 4},
		{api.Span{From: 32, Many: 1}, 4},
		{api.Span{From: 0, Many: 0}, 4},
		{api.Span{From: 0, Many: -1}, 4},
		{api.Span{From: 0, Many: 5}, 4},
		{api.Span{From: 31, Many: 2}, 4},
		{api.Span{From: 29, Many: 4}, 4},
		{api.Span{From: 0, Many: 33}, 99},
		{api.Span{From: 0, Many: 1}, 0},
		{api.Span{From: 0, Many: 0}, 0},
		{api.Span{From: 0, Many: -3}, -1},
		{api.Span{From: 1, Many: math.MaxInt}, math.MaxInt},
		{api.Span{From: math.MinInt, Many: math.MinInt}, 4},
		{api.Span{From: math.MaxInt, Many: 1}, 4},
	} {
		if err := span.Check(c.s, c.most); err != api.ErrBound {
			t.Errorf("Check(%v, %d) = %v, want ErrBound", c.s, c.most, err)
		}
	}
}

func TestA2Has(t *testing.T) {
	for _, s := range all() {
		set := sectors(s)
		for at := -2; at < api.Sectors+2; at++ {
			want := at >= 0 && set>>at&1 == 1
			if got := span.Has(s, at); got != want {
				t.Errorf("Has(%v, %d) = %v", s, at, got)
			}
		}
		if span.Has(s, math.MinInt) || span.Has(s, math.MaxInt) {
			t.Errorf("%v has a sector that is none", s)
		}
	}
}

func TestA2MeetAndNext(t *testing.T) {
	for _, a := range all() {
		last := a.From
		for sectors(a)>>(last+1) != 0 {
			last++
		}
		for _, b := range all() {
			if got, want := span.Meet(a, b), sectors(a)&sectors(b) != 0; got != want {
				t.Fatalf("Meet(%v, %v) = %v", a, b, got)
			}
			if got, want := span.Next(a, b), b.From-last == 1; got != want {
				t.Fatalf("Next(%v, %v) = %v", a, b, got)
			}
		}
	}
}

func TestZ1NoCallPanics(t *testing.T) {
	for _, from := range odd {
		for _, many := range odd {
			s := api.Span{From: from, Many: many}
			for _, n := range odd {
				may := from >= 0 && from < api.Sectors && many >= 1 && many <= n && many <= api.Sectors && from+many <= api.Sectors
				if err := span.Check(s, n); (err == nil) != may || err != nil && err != api.ErrBound {
					t.Errorf("Check(%v, %d) = %v", s, n, err)
				}
				span.Has(s, n)
				span.Meet(s, api.Span{From: n, Many: n})
				span.Next(s, api.Span{From: n, Many: n})
			}
		}
	}
}
