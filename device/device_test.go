package device_test

import (
	"fmt"
	"math"
	"reflect"
	"slices"
	"strconv"
	"strings"
	"testing"

	"weighbridge/api"
	"weighbridge/device"
	"weighbridge/request"
)

func reading(from, many, tag int) api.Req {
	return api.Req{Span: api.Span{From: from, Many: many}, Tags: []int{tag}, Born: tag}
}

func writing(from, tag int, data ...string) api.Req {
	return api.Req{Write: true, Span: api.Span{From: from, Many: len(data)}, Data: data, Tags: []int{tag}, Born: tag}
}

// told: the requests that a device has.
func told(d *device.Device) string {
	var out []string
	for _, r := range d.Busy() {
		out = append(out, fmt.Sprintf("%s%q@%d", request.Text(r, strconv.Itoa), r.Data, r.Born))
	}
	return strings.Join(out, " ")
}

// sectors: all that have bytes.
func sectors(d *device.Device) string {
	var out []string
	for at := range api.Sectors {
		if d.Peek(at) != "" {
			out = append(out, fmt.Sprintf("%d:%s", at, d.Peek(at)))
		}
	}
	return strings.Join(out, " ")
}

// do a request at once.
func do(t *testing.T, d *device.Device, r api.Req) api.Result {
	t.Helper()
	if err := d.Start(r); err != nil {
		t.Fatal(err)
	}
	got, err := d.End(len(d.Busy())-1, false)
	if err != nil {
		t.Fatal(err)
	}
	return got
}

// put: single sectors are written, one by one.
func put(t *testing.T, d *device.Device, at int, data ...string) {
	t.Helper()
	for _, x := range data {
		do(t, d, writing(at, 1, x))
	}
}

func wantSectors(t *testing.T, what string, d *device.Device, want string) {
	t.Helper()
	if got := sectors(d); got != want {
		t.Errorf("%s: sectors %s, want %s", what, got, want)
	}
}

func TestE1New(t *testing.T) {
	d := device.New()
	if len(d.Busy()) != 0 {
		t.Errorf("a new device has %s", told(d))
	}
	wantSectors(t, "a new device", d, "")
	if got := do(t, d, reading(0, 4, 1)).Data; !slices.Equal(got, []string{"", "", "", ""}) {
		t.Errorf("a new device's sectors are read as %q", got)
	}
}

func TestE1StartAndBusy(t *testing.T) {
	d := device.New()
	for i := range api.Slots {
		if err := d.Start(writing(9-i, i, "a")); err != nil {
			t.Fatal(err)
		}
	}
	want := `w9+1#0["a"]@0 w8+1#1["a"]@1`
	if told(d) != want {
		t.Errorf("it has %s, want %s", told(d), want)
	}
	wantSectors(t, "what was only started is not done", d, "")
	if err := d.Start(reading(20, 1, 9)); err != api.ErrFull || told(d) != want {
		t.Errorf("beyond its slots: %v, it has %s", err, told(d))
	}
	d.End(0, false)
	if err := d.Start(reading(20, 1, 9)); err != nil || told(d) != `w8+1#1["a"]@1 r20+1#9[]@9` {
		t.Errorf("with a slot again: %v, it has %s", err, told(d))
	}
}

func TestE1Peek(t *testing.T) {
	d := device.New()
	put(t, d, 0, "a")
	put(t, d, api.Sectors-1, "b", "hay")
	wantSectors(t, "what they have now", d, "0:a 31:hay")
}

func TestE2EndOfNone(t *testing.T) {
	d := device.New()
	check := func(i int) {
		t.Helper()
		before := told(d)
		got, err := d.End(i, i%2 == 0)
		if err != api.ErrNone || !reflect.DeepEqual(got, api.Result{}) || told(d) != before {
			t.Errorf("End(%d) of %q: %v, %v", i, before, got, err)
		}
	}
	check(0)
	d.Start(writing(3, 1, "a"))
	check(1)
	d.Start(writing(4, 1, "b"))
	for _, i := range []int{math.MinInt, -2, -1, 2, 3, math.MaxInt} {
		check(i)
	}
	wantSectors(t, "End of none", d, "")
}

func TestE2EndWrites(t *testing.T) {
	d := device.New()
	r := writing(28, 5, "a", "", "hay", "oats")
	put(t, d, 29, "old")
	if got := do(t, d, r); !reflect.DeepEqual(got, api.Result{Req: r}) {
		t.Errorf("the result of a write: %v", got)
	}
	wantSectors(t, "written", d, "28:a 30:hay 31:oats")
	if told(d) != "" {
		t.Errorf("it still has %s", told(d))
	}
}

func TestE2EndReads(t *testing.T) {
	d := device.New()
	put(t, d, 4, "a")
	put(t, d, 6, "b")
	put(t, d, 7, "c")
	r := reading(3, 4, 5)
	got := do(t, d, r)
	if !reflect.DeepEqual(got, api.Result{Req: r, Data: []string{"", "a", "", "b"}}) {
		t.Errorf("the result of a read: %v", got)
	}
	wantSectors(t, "read", d, "4:a 6:b 7:c")
}

func TestE2EndInAnyOrder(t *testing.T) {
	for _, first := range []int{0, 1} {
		d := device.New()
		d.Start(writing(3, 1, "a", "b"))
		d.Start(reading(3, 2, 2))
		read := []string{"", ""}
		if first == 0 {
			read = []string{"a", "b"}
		}
		one, _ := d.End(first, false)
		two, _ := d.End(0, false)
		if first == 0 {
			one = two
		}
		if !slices.Equal(one.Data, read) {
			t.Errorf("End(%d) first: read %q, want %q", first, one.Data, read)
		}
		wantSectors(t, "in any order", d, "3:a 4:b")
	}
}

func TestE2EndWithAFault(t *testing.T) {
	d := device.New()
	put(t, d, 3, "old")
	for _, r := range []api.Req{writing(3, 1, "a", "b"), reading(3, 2, 2)} {
		d.Start(reading(9, 1, 7))
		d.Start(r)
		got, err := d.End(1, true)
		if err != nil || !reflect.DeepEqual(got, api.Result{Req: r, Err: api.ErrFault}) {
			t.Errorf("with a fault: %v, %v", got, err)
		}
		if told(d) != "r9+1#7[]@7" {
			t.Errorf("with a fault: it has %s", told(d))
		}
		d.End(0, true)
	}
	wantSectors(t, "with a fault", d, "3:old")
}

func TestE3FlushIsForGood(t *testing.T) {
	d := device.New()
	put(t, d, 3, "a")
	put(t, d, 4, "b")
	d.Start(reading(9, 1, 7))
	d.Flush()
	wantSectors(t, "flushed", d, "3:a 4:b")
	if told(d) != "r9+1#7[]@7" {
		t.Errorf("flushed: it has %q", told(d))
	}
	put(t, d, 3, "c", "")
	put(t, d, 5, "d")
	d.Crash(0)
	wantSectors(t, "crashed", d, "3:a 4:b")
	d.Crash(math.MaxUint64)
	wantSectors(t, "crashed again", d, "3:a 4:b")
}

func TestE3CrashHasNoRequests(t *testing.T) {
	d := device.New()
	d.Start(writing(3, 1, "a"))
	d.Start(writing(4, 1, "b"))
	d.Crash(math.MaxUint64)
	if told(d) != "" {
		t.Errorf("crashed: it has %s", told(d))
	}
	wantSectors(t, "what was only started", d, "")
	if err := d.Start(reading(3, 1, 1)); err != nil {
		t.Errorf("crashed: there is no slot: %v", err)
	}
}

func TestE3CrashKeeps(t *testing.T) {
	for _, c := range []struct {
		keep uint64
		want string
	}{
		{0, "1:good 2:good"},
		{1 << 0, "1:a 2:good"},
		{1 << 1, "1:good 2:b"},
		{1 << 2, "1:good 2:good 3:c"},
		{1 << 3, "1:good 2:d"},
		{1 << 4, "2:good"},
		{1 << 5, "1:good 2:good"},
		{1<<1 | 1<<3, "1:good 2:d"},
		{1<<0 | 1<<4, "2:good"},
		{1<<0 | 1<<2 | 1<<3, "1:a 2:d 3:c"},
		{math.MaxUint64, "2:d 3:c"},
	} {
		d := device.New()
		do(t, d, writing(1, 1, "good", "good"))
		d.Flush()
		do(t, d, writing(1, 1, "a", "b", "c"))
		do(t, d, reading(1, 3, 1))
		d.Start(writing(9, 1, "x"))
		d.End(0, true)
		put(t, d, 2, "d")
		put(t, d, 1, "")
		d.Crash(c.keep)
		wantSectors(t, fmt.Sprintf("keep %b", c.keep), d, c.want)
		d.Crash(0)
		wantSectors(t, fmt.Sprintf("keep %b is for good", c.keep), d, c.want)
	}
}

func TestE3BitsBeginAgain(t *testing.T) {
	d := device.New()
	put(t, d, 1, "a", "b")
	d.Flush()
	put(t, d, 2, "c")
	put(t, d, 3, "d")
	d.Crash(1)
	wantSectors(t, "behind a Flush", d, "1:b 2:c")
	put(t, d, 4, "e")
	put(t, d, 5, "f")
	d.Crash(1)
	wantSectors(t, "behind a crash", d, "1:b 2:c 4:e")
}

func TestE3BitsModulo64(t *testing.T) {
	for i := range 3 * 64 {
		d := device.New()
		for j := range 3 * 64 {
			put(t, d, j/64*8+j%8, strconv.Itoa(j))
		}
		d.Crash(1 << (i % 64))
		low := i % 64
		want := fmt.Sprintf("%d:%d %d:%d %d:%d", low%8, low, 8+low%8, 64+low, 16+low%8, 128+low)
		wantSectors(t, fmt.Sprintf("keep the bit %d", low), d, want)
	}
}

// naive disk: all that was written, as the document says it.
type naive struct {
	good, now [api.Sectors]string
	log       []api.Buf
}

func (n *naive) write(r api.Req) {
	for i, data := range r.Data {
		n.now[r.Span.From+i] = data
		n.log = append(n.log, api.Buf{At: r.Span.From + i, Data: data})
	}
}

func (n *naive) crash(keep uint64) {
	n.now = n.good
	for i, b := range n.log {
		if keep&(1<<(i%64)) != 0 {
			n.now[b.At] = b.Data
		}
	}
	n.good, n.log = n.now, nil
}

func TestE3AgainstAllThatWasWritten(t *testing.T) {
	seed := uint64(5)
	draw := func(most int) int {
		seed = seed*6364136223846793005 + 1442695040888963407
		return int(seed >> 33 % uint64(most))
	}
	for round := range 60 {
		d, n := device.New(), &naive{}
		for range 400 {
			r := writing(draw(29), 1, strconv.Itoa(draw(999)))
			for range draw(4) {
				r.Data = append(r.Data, strconv.Itoa(draw(999)))
				r.Span.Many++
			}
			do(t, d, r)
			n.write(r)
			if draw(300) == 0 {
				d.Flush()
				n.good, n.log = n.now, nil
			}
			if draw(300) == 0 {
				keep := uint64(draw(1<<31))<<33 ^ uint64(draw(1<<31))
				d.Crash(keep)
				n.crash(keep)
			}
			for at := range api.Sectors {
				if d.Peek(at) != n.now[at] {
					t.Fatalf("round %d: sector %d has %q, want %q", round, at, d.Peek(at), n.now[at])
				}
			}
		}
		d.Crash(seed)
		n.crash(seed)
		for at := range api.Sectors {
			if d.Peek(at) != n.now[at] {
				t.Fatalf("round %d: behind the crash sector %d has %q, want %q", round, at, d.Peek(at), n.now[at])
			}
		}
	}
}

func TestW6OrderOfWhatHasNoSectorInCommon(t *testing.T) {
	for _, first := range []int{0, 1} {
		d := device.New()
		d.Start(writing(3, 1, "a", "b"))
		d.Start(writing(5, 2, "c"))
		d.End(first, false)
		d.End(0, false)
		wantSectors(t, "either order", d, "3:a 4:b 5:c")
	}
}

func TestZ1NoCallPanics(t *testing.T) {
	odd := []int{math.MinInt, math.MinInt + 1, -33, -1, 0, 1, 31, 32, math.MaxInt - 1, math.MaxInt}
	for _, from := range odd {
		for _, many := range odd {
			for _, write := range []bool{false, true} {
				d := device.New()
				d.Start(api.Req{Write: write, Span: api.Span{From: from, Many: many}, Data: []string{"a"}})
				d.End(0, false)
				d.Flush()
				d.Crash(uint64(from))
			}
		}
		d := device.New()
		do(t, d, writing(0, 1, "a", "b", "c"))
		if got := d.Peek(from); (from < 0 || from >= api.Sectors) && got != "" {
			t.Errorf("Peek(%d) = %q", from, got)
		}
	}
}

func TestZ2ListsInRequests(t *testing.T) {
	d := device.New()
	data := []string{"a", "b", "x"}
	tags := []int{1, 99}
	r := api.Req{Write: true, Span: api.Span{From: 3, Many: 2}, Data: data[:2], Tags: tags[:1]}
	do(t, d, r)
	if !slices.Equal(data, []string{"a", "b", "x"}) || !slices.Equal(tags, []int{1, 99}) {
		t.Errorf("written into: %q %d", data, tags)
	}
	wantSectors(t, "nothing behind is read", d, "3:a 4:b")
}

func TestZ2WhatComesOutIsFresh(t *testing.T) {
	d := device.New()
	d.Start(reading(3, 1, 1))
	d.Start(reading(4, 1, 2))
	before := told(d)
	out := d.Busy()
	for i := range out[:cap(out)] {
		out[:cap(out)][i] = writing(9, 9, "x")
	}
	if told(d) != before {
		t.Errorf("what Busy answered is the device's own: %s", told(d))
	}
	kept := d.Busy()
	d.End(0, false)
	if got := request.Text(kept[0], strconv.Itoa); got != "r3+1#1" {
		t.Errorf("what Busy answered is changed by End: %s", got)
	}
	one := do(t, d, reading(3, 2, 1)).Data
	one[0] = "x"
	if two := do(t, d, reading(3, 2, 1)).Data; two[0] != "" {
		t.Errorf("what was read is the device's own: %q", two)
	}
}

func TestZ2DevicesShareNothing(t *testing.T) {
	a, b := device.New(), device.New()
	put(t, a, 3, "a")
	a.Start(reading(3, 1, 1))
	if told(b) != "" || sectors(b) != "" {
		t.Errorf("another device has %s, %s", told(b), sectors(b))
	}
}
