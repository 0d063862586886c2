package elevator_test

import (
	"math"
	"reflect"
	"slices"
	"testing"

	"weighbridge/api"
	"weighbridge/elevator"
	"weighbridge/queue"
)

func reading(from, many, born int) api.Req {
	return api.Req{Span: api.Span{From: from, Many: many}, Tags: []int{1}, Born: born}
}

func writing(from, many, born int) api.Req {
	data := slices.Repeat([]string{"a"}, many)
	return api.Req{Write: true, Span: api.Span{From: from, Many: many}, Data: data, Tags: []int{1}, Born: born}
}

// turn: whose, Gone, Starved, Where.
func turn(write bool, gone, starved, where int) api.Turn {
	return api.Turn{Write: write, Gone: gone, Starved: starved, Where: where}
}

type nextCase struct {
	what string
	l    []api.Req
	t    api.Turn
	now  int
	want int
	then api.Turn
}

func check(t *testing.T, cases []nextCase) {
	t.Helper()
	for _, c := range cases {
		if got, then := elevator.Next(c.l, c.t, c.now); got != c.want || then != c.then {
			t.Errorf("%s: Next(.., %v, %d) = %d, %v, want %d, %v", c.what, c.t, c.now, got, then, c.want, c.then)
		}
	}
}

func TestD1ATurnGoesOn(t *testing.T) {
	reads := []api.Req{reading(9, 2, 10), reading(3, 1, 10), reading(6, 1, 10)}
	both := []api.Req{writing(7, 1, 10), reading(8, 3, 10), writing(20, 4, 10), reading(1, 1, 10)}
	check(t, []nextCase{
		{"the first one behind Where", reads, turn(false, 1, 0, 4), 10, 2, turn(false, 2, 0, 7)},
		{"one that begins at Where", reads, turn(false, 1, 0, 9), 10, 0, turn(false, 2, 0, 11)},
		{"the last one of a batch", reads, turn(false, 2, 0, 0), 10, 1, turn(false, 3, 0, 4)},
		{"of those that read", both, turn(false, 1, 0, 7), 10, 1, turn(false, 2, 0, 11)},
		{"of those that write, though some read", both, turn(true, 1, 0, 8), 10, 2, turn(true, 2, 0, 24)},
		{"however long another one has waited", reads, turn(false, 1, 0, 7), 1000, 0, turn(false, 2, 0, 11)},
		{"however often those that write had to wait", both, turn(false, 1, 2, 0), 10, 3, turn(false, 2, 2, 2)},
		{"and how often they had to stays", both, turn(true, 1, 1, 0), 10, 0, turn(true, 2, 1, 8)},
		{"Where is behind the last sector of all", []api.Req{reading(28, 4, 0)}, turn(false, 1, 0, 28), 0, 0, turn(false, 2, 0, 32)},
	})
}

func TestD1ATurnIsOver(t *testing.T) {
	both := []api.Req{writing(7, 1, 10), reading(8, 3, 10), writing(20, 4, 10), reading(1, 1, 10)}
	check(t, []nextCase{
		{"none has gone", both, turn(true, 0, 0, 8), 10, 1, turn(false, 1, 1, 11)},
		{"below none", both, turn(true, -1, 0, 8), 10, 1, turn(false, 1, 1, 11)},
		{"a batch has gone", both, turn(true, 3, 0, 8), 10, 1, turn(false, 1, 1, 11)},
		{"more than a batch has gone", both, turn(true, 4, 0, 8), 10, 1, turn(false, 1, 1, 11)},
		{"none of the kind from Where on", both, turn(true, 1, 0, 21), 10, 3, turn(false, 1, 1, 2)},
		{"none of the kind at all", both[1:2], turn(true, 1, 0, 0), 10, 0, turn(false, 1, 0, 11)},
		{"none of those that read from Where on", both, turn(false, 1, 2, 9), 10, 2, turn(true, 1, 0, 24)},
	})
}

func TestD2WhoseTurnBegins(t *testing.T) {
	reads := []api.Req{reading(3, 1, 10)}
	writes := []api.Req{writing(5, 2, 10)}
	both := []api.Req{writing(5, 2, 10), reading(3, 1, 10)}
	check(t, []nextCase{
		{"none writes", reads, turn(true, 0, 0, 0), 10, 0, turn(false, 1, 0, 4)},
		{"none writes, and how often they had to wait stays", reads, turn(true, 3, 1, 0), 10, 0, turn(false, 1, 1, 4)},
		{"none writes, though they had to wait often", reads, turn(false, 3, 2, 0), 10, 0, turn(false, 1, 2, 4)},
		{"none reads", writes, turn(false, 0, 0, 0), 10, 0, turn(true, 1, 0, 7)},
		{"none reads, and nobody had to wait any more", writes, turn(true, 3, 1, 0), 10, 0, turn(true, 1, 0, 7)},
		{"both, for the first time", both, turn(true, 0, 0, 0), 10, 1, turn(false, 1, 1, 4)},
		{"both, for the second time", both, turn(false, 3, 1, 0), 10, 1, turn(false, 1, 2, 4)},
		{"both, those that write had to wait often enough", both, turn(false, 3, 2, 0), 10, 0, turn(true, 1, 0, 7)},
		{"both, those that write had to wait more often", both, turn(false, 3, 9, 0), 10, 0, turn(true, 1, 0, 7)},
		{"both, of a turn below 0", both, turn(true, -5, -4, -3), 10, 1, turn(false, 1, -3, 4)},
	})
}

func TestD2WhoGoesFirst(t *testing.T) {
	reads := []api.Req{reading(9, 1, 12), reading(3, 1, 10), reading(20, 2, 10)}
	writes := []api.Req{writing(9, 1, 12), writing(3, 1, 10), writing(20, 2, 10)}
	check(t, []nextCase{
		{"it has waited so long", reads, turn(false, 0, 0, 5), 14, 1, turn(false, 1, 0, 4)},
		{"it has waited longer", reads, turn(false, 0, 0, 5), 15, 1, turn(false, 1, 0, 4)},
		{"it hasn't yet: the one from Where on", reads, turn(false, 0, 0, 5), 13, 0, turn(false, 1, 0, 10)},
		{"one that begins at Where", reads, turn(false, 0, 0, 20), 13, 2, turn(false, 1, 0, 22)},
		{"none from Where on: from 0 on", reads, turn(false, 0, 0, 21), 13, 1, turn(false, 1, 0, 4)},
		{"Where below 0", reads, turn(false, 0, 0, -7), 13, 1, turn(false, 1, 0, 4)},
		{"Where far beyond", reads, turn(false, 0, 0, math.MaxInt), 13, 1, turn(false, 1, 0, 4)},
		{"writes wait as long as reads don't", writes, turn(true, 0, 0, 5), 14, 0, turn(true, 1, 0, 10)},
		{"writes wait one moment more", writes, turn(true, 0, 0, 5), 17, 0, turn(true, 1, 0, 10)},
		{"a write has waited so long", writes, turn(true, 0, 0, 5), 18, 1, turn(true, 1, 0, 4)},
		{"writes: none from Where on: from 0 on", writes, turn(true, 0, 0, 31), 17, 1, turn(true, 1, 0, 4)},
		{"born behind now", reads, turn(false, 0, 0, 5), 0, 0, turn(false, 1, 0, 10)},
		{"at the last moment", []api.Req{reading(9, 1, api.MaxTime), reading(3, 1, 0)}, turn(false, 0, 0, 5), api.MaxTime, 1, turn(false, 1, 0, 4)},
		{"only the kind's own age counts", []api.Req{writing(1, 1, 0), reading(9, 1, 12), reading(6, 1, 13)}, turn(false, 0, 0, 5), 13, 2, turn(false, 1, 1, 7)},
	})
}

// TestD1D2ARun: all that waits goes, in this order, as neither kind lets the other one wait for ever.
func TestD1D2ARun(t *testing.T) {
	l := []api.Req{
		reading(0, 1, 0), reading(2, 1, 0), reading(4, 1, 0), reading(6, 1, 0), reading(8, 1, 0),
		reading(10, 1, 0), reading(12, 1, 0), writing(20, 1, 0), writing(22, 1, 0), reading(14, 1, 0),
	}
	var order []int
	var turns []api.Turn
	t0 := api.Turn{}
	for len(l) > 0 {
		i, then := elevator.Next(l, t0, 1)
		var r api.Req
		l, r = queue.Take(l, i)
		t0 = then
		order, turns = append(order, r.Span.From), append(turns, then)
	}
	wantOrder := []int{0, 2, 4, 6, 8, 10, 20, 22, 12, 14}
	wantTurns := []api.Turn{
		turn(false, 1, 1, 1), turn(false, 2, 1, 3), turn(false, 3, 1, 5),
		turn(false, 1, 2, 7), turn(false, 2, 2, 9), turn(false, 3, 2, 11),
		turn(true, 1, 0, 21), turn(true, 2, 0, 23),
		turn(false, 1, 0, 13), turn(false, 2, 0, 15),
	}
	if !slices.Equal(order, wantOrder) || !slices.Equal(turns, wantTurns) {
		t.Errorf("order %v, turns %v", order, turns)
	}
}

func TestZ1NoCallPanics(t *testing.T) {
	odd := []int{math.MinInt, -1, 0, 1, 2, 3, 31, 32, math.MaxInt}
	l := []api.Req{writing(5, 2, 10), reading(3, 1, 10)}
	for _, a := range odd {
		for _, b := range odd {
			for _, c := range odd {
				for _, write := range []bool{false, true} {
					was := turn(write, a, b, c)
					if i, _ := elevator.Next(l, was, 0); i < 0 || i >= len(l) {
						t.Fatalf("Next(.., %v, 0) = %d", was, i)
					}
					elevator.Next([]api.Req{reading(a, b, c)}, was, b)
					if i, then := elevator.Next(nil, was, 0); i != -1 || then != was {
						t.Fatalf("Next of none = %d, %v", i, then)
					}
				}
			}
		}
	}
}

func TestZ2TheListStaysAndNothingBehindIsRead(t *testing.T) {
	whole := []api.Req{reading(9, 1, 9), reading(3, 1, 10), writing(5, 1, 0), reading(6, 1, 0)}
	before := slices.Clone(whole)
	check(t, []nextCase{
		{"a turn begins", whole[:2], turn(true, 3, 2, 4), 10, 0, turn(false, 1, 2, 10)},
		{"a turn goes on", whole[:2], turn(false, 1, 2, 4), 10, 0, turn(false, 2, 2, 10)},
	})
	if !reflect.DeepEqual(whole, before) {
		t.Errorf("the list is written into: %v", whole)
	}
}
