package driver_test

import (
	"fmt"
	"math"
	"reflect"
	"strconv"
	"strings"
	"testing"

	"weighbridge/api"
	"weighbridge/device"
	"weighbridge/driver"
	"weighbridge/request"
)

func reading(from int, tags ...int) api.Req {
	return api.Req{Span: api.Span{From: from, Many: 1}, Tags: tags}
}

func writing(from int, data string, tags ...int) api.Req {
	return api.Req{Write: true, Span: api.Span{From: from, Many: 1}, Data: []string{data}, Tags: tags}
}

func told(d *device.Device) string {
	var out []string
	for _, r := range d.Busy() {
		out = append(out, fmt.Sprintf("%s%q", request.Text(r, strconv.Itoa), r.Data))
	}
	return strings.Join(out, " ")
}

// again: the request i goes wrong, and the device must have it again.
func again(t *testing.T, v *driver.Driver, i int) {
	t.Helper()
	r, done, err := v.End(i, true)
	if err != nil || done || !reflect.DeepEqual(r, api.Result{}) {
		t.Errorf("it goes wrong: %v, %v, %v, want that it is tried again", r, done, err)
	}
}

// ends: the request i must be done, with that result.
func ends(t *testing.T, v *driver.Driver, i int, fault bool, want api.Result) {
	t.Helper()
	r, done, err := v.End(i, fault)
	if err != nil || !done || !reflect.DeepEqual(r, want) {
		t.Errorf("it ends: %v, %v, %v, want %v", r, done, err, want)
	}
}

func start(t *testing.T, v *driver.Driver, r api.Req) {
	t.Helper()
	if err := v.Start(r); err != nil {
		t.Fatal(err)
	}
}

func TestF1RoomAndStart(t *testing.T) {
	d := device.New()
	v := driver.New(d)
	for i := range api.Slots {
		if !v.Room() {
			t.Errorf("no room beside %d", i)
		}
		start(t, v, reading(3+i, i))
	}
	if v.Room() {
		t.Error("room beyond the device's slots")
	}
	if err := v.Start(reading(9, 9)); err != api.ErrFull || told(d) != "r3+1#0[] r4+1#1[]" {
		t.Errorf("Start beyond the device's slots: %v, it has %s", err, told(d))
	}
	d.End(0, false)
	if !v.Room() {
		t.Error("no room, though the device has")
	}
	d.Start(reading(5, 5))
	if v.Room() {
		t.Error("room, though the device has none")
	}
}

func TestF1EndWell(t *testing.T) {
	d := device.New()
	v := driver.New(d)
	start(t, v, writing(3, "a", 1))
	start(t, v, reading(3, 2))
	ends(t, v, 0, false, api.Result{Req: writing(3, "a", 1)})
	ends(t, v, 0, false, api.Result{Req: reading(3, 2), Data: []string{"a"}})
	if told(d) != "" || d.Peek(3) != "a" {
		t.Errorf("it has %s, the sector %q", told(d), d.Peek(3))
	}
}

func TestF1EndOfNone(t *testing.T) {
	d := device.New()
	v := driver.New(d)
	start(t, v, reading(3, 1))
	for _, i := range []int{math.MinInt, -1, 1, 2, math.MaxInt} {
		for _, fault := range []bool{false, true} {
			r, done, err := v.End(i, fault)
			if err != api.ErrNone || done || !reflect.DeepEqual(r, api.Result{}) || told(d) != "r3+1#1[]" {
				t.Errorf("End(%d): %v, %v, %v, it has %s", i, r, done, err, told(d))
			}
		}
	}
	for range api.Tries - 1 {
		again(t, v, 0)
	}
	ends(t, v, 0, true, api.Result{Req: reading(3, 1), Err: api.ErrFault})
}

func TestF1TriedAgainAsTheLastOne(t *testing.T) {
	d := device.New()
	v := driver.New(d)
	start(t, v, writing(3, "a", 1, 7))
	start(t, v, reading(4, 2))
	again(t, v, 0)
	if told(d) != `r4+1#2[] w3+1#1,7["a"]` || d.Peek(3) != "" {
		t.Errorf("it has %s, the sector %q", told(d), d.Peek(3))
	}
	again(t, v, 1)
	if told(d) != `r4+1#2[] w3+1#1,7["a"]` {
		t.Errorf("it has %s", told(d))
	}
	ends(t, v, 1, false, api.Result{Req: writing(3, "a", 1, 7)})
	if told(d) != "r4+1#2[]" || d.Peek(3) != "a" {
		t.Errorf("it has %s, the sector %q", told(d), d.Peek(3))
	}
}

func TestF1TriesAreAtAnEnd(t *testing.T) {
	for _, r := range []api.Req{writing(3, "a", 1), reading(3, 1)} {
		d := device.New()
		v := driver.New(d)
		for range 2 { // the second time it is counted anew
			start(t, v, r)
			for range api.Tries - 1 {
				again(t, v, 0)
			}
			ends(t, v, 0, true, api.Result{Req: r, Err: api.ErrFault})
			if told(d) != "" || d.Peek(3) != "" {
				t.Errorf("it has %s, the sector %q", told(d), d.Peek(3))
			}
		}
	}
}

func TestF1CountedAnewWhenItWentWell(t *testing.T) {
	v := driver.New(device.New())
	for range 3 {
		start(t, v, reading(3, 1))
		for range api.Tries - 1 {
			again(t, v, 0)
		}
		ends(t, v, 0, false, api.Result{Req: reading(3, 1), Data: []string{""}})
	}
}

func TestF1ToldApartByTheFirstTag(t *testing.T) {
	v := driver.New(device.New())
	start(t, v, reading(3, 1, 5))
	start(t, v, reading(9, 2, 5))
	for range api.Tries - 1 {
		again(t, v, 0)
		again(t, v, 0)
	}
	ends(t, v, 1, true, api.Result{Req: reading(9, 2, 5), Err: api.ErrFault})
	ends(t, v, 0, true, api.Result{Req: reading(3, 1, 5), Err: api.ErrFault})

	start(t, v, reading(3, 1))
	start(t, v, writing(9, "a", 1, 8))
	for range api.Tries - 1 {
		again(t, v, 0)
	}
	ends(t, v, 0, true, api.Result{Req: reading(3, 1), Err: api.ErrFault})
	again(t, v, 0)
}

func TestF1ACrashIsNoEnd(t *testing.T) {
	d := device.New()
	v := driver.New(d)
	start(t, v, reading(3, 1))
	for range api.Tries - 1 {
		again(t, v, 0)
	}
	d.Crash(0)
	start(t, v, reading(3, 1))
	ends(t, v, 0, true, api.Result{Req: reading(3, 1), Err: api.ErrFault})
}

func TestF1NewCountsAnew(t *testing.T) {
	d := device.New()
	v := driver.New(d)
	start(t, v, reading(3, 1))
	for range api.Tries - 1 {
		again(t, v, 0)
	}
	v = driver.New(d)
	if told(d) != "r3+1#1[]" {
		t.Errorf("over a new driver the device has %s", told(d))
	}
	again(t, v, 0)
}

func TestZ1NoCallPanics(t *testing.T) {
	d := device.New()
	v := driver.New(d)
	for _, r := range []api.Req{
		{},
		{Write: true},
		{Write: true, Span: api.Span{From: -5, Many: math.MaxInt}, Data: []string{"a"}},
		{Span: api.Span{From: math.MinInt, Many: math.MinInt}, Tags: []int{math.MinInt}},
	} {
		v.Start(r)
		v.End(0, true)
		v.End(0, false)
	}
	if told(d) != "" {
		t.Errorf("it has %s", told(d))
	}
}

func TestZ2ListsInRequests(t *testing.T) {
	v := driver.New(device.New())
	tags := []int{1, 99}
	r := reading(3, 1)
	r.Tags = tags[:1]
	start(t, v, r)
	again(t, v, 0)
	ends(t, v, 0, false, api.Result{Req: reading(3, 1), Data: []string{""}})
	if tags[0] != 1 || tags[1] != 99 {
		t.Errorf("written into: %d", tags)
	}
}
