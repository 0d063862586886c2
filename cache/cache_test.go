package cache_test

import (
	"fmt"
	"math"
	"slices"
	"strings"
	"testing"

	"weighbridge/api"
	"weighbridge/cache"
)

func clean(at, used int) api.Buf { return api.Buf{At: at, Data: "a", Used: used} }

func dirty(at, used int) api.Buf { return api.Buf{At: at, Data: "a", Dirty: true, Used: used} }

func nobody(int) bool { return false }

func everybody(int) bool { return true }

// holding just these sectors.
func holding(held ...int) func(int) bool {
	return func(at int) bool { return slices.Contains(held, at) }
}

func told(l []api.Buf) string {
	var out []string
	for _, b := range l {
		mark := ""
		if b.Dirty {
			mark = "!"
		}
		out = append(out, fmt.Sprintf("%d%s%q@%d", b.At, mark, b.Data, b.Used))
	}
	return strings.Join(out, " ")
}

// full: Cached sectors 2, 4, 6 .., used ever later.
func full(of func(at, used int) api.Buf) (l []api.Buf) {
	for i := range api.Cached {
		l = append(l, of(2+2*i, 10+i))
	}
	return l
}

// with: a list with another one of that At.
func with(l []api.Buf, b api.Buf) []api.Buf {
	out := slices.Clone(l)
	for i := range out {
		if out[i].At == b.At {
			out[i] = b
		}
	}
	return out
}

// without: a list less its sector i, and with one more in its place.
func without(l []api.Buf, i int, b api.Buf) []api.Buf {
	out := append(slices.Delete(slices.Clone(l), i, i+1), b)
	slices.SortFunc(out, func(x, y api.Buf) int { return x.At - y.At })
	return out
}

func TestG1Get(t *testing.T) {
	l := []api.Buf{clean(0, 5), dirty(3, 7), clean(31, 1)}
	for _, b := range l {
		if got, ok := cache.Get(l, b.At); !ok || got != b {
			t.Errorf("Get(%d) = %v, %v, want %v", b.At, got, ok, b)
		}
	}
	for _, at := range []int{math.MinInt, -1, 1, 2, 4, 30, 32, math.MaxInt} {
		if got, ok := cache.Get(l, at); ok || got != (api.Buf{}) {
			t.Errorf("Get(%d) = %v, %v, though it isn't at hand", at, got, ok)
		}
	}
	if got, ok := cache.Get(nil, 0); ok || got != (api.Buf{}) {
		t.Errorf("Get of none: %v, %v", got, ok)
	}
}

func TestG1Use(t *testing.T) {
	l := []api.Buf{clean(0, 5), dirty(3, 7), clean(31, 1)}
	for _, c := range []struct {
		at, now int
		want    []api.Buf
	}{
		{0, 9, with(l, clean(0, 9))},
		{3, 9, with(l, dirty(3, 9))},
		{31, 0, with(l, clean(31, 0))},
		{3, 1, with(l, dirty(3, 1))},
		{4, 9, l}, {-1, 9, l}, {32, 9, l},
	} {
		if got := cache.Use(l, c.at, c.now); !slices.Equal(got, c.want) {
			t.Errorf("Use(%d, %d) = %s, want %s", c.at, c.now, told(got), told(c.want))
		}
	}
	if got := cache.Use(nil, 0, 9); len(got) != 0 {
		t.Errorf("Use of none: %s", told(got))
	}
}

func TestG1Dirty(t *testing.T) {
	for _, c := range []struct {
		l    []api.Buf
		want int
	}{
		{nil, 0}, {[]api.Buf{clean(0, 1)}, 0}, {[]api.Buf{dirty(0, 1)}, 1},
		{[]api.Buf{dirty(0, 1), clean(1, 1), dirty(2, 1)}, 2},
		{full(dirty), api.Cached}, {full(clean), 0},
	} {
		if got := cache.Dirty(c.l); got != c.want {
			t.Errorf("Dirty(%s) = %d, want %d", told(c.l), got, c.want)
		}
	}
}

func TestG2PutInItsPlace(t *testing.T) {
	l := []api.Buf{clean(3, 1), dirty(5, 2), clean(9, 3)}
	for _, c := range []struct {
		l    []api.Buf
		b    api.Buf
		want []api.Buf
	}{
		{nil, dirty(3, 9), []api.Buf{dirty(3, 9)}},
		{l, clean(0, 9), []api.Buf{clean(0, 9), l[0], l[1], l[2]}},
		{l, dirty(4, 0), []api.Buf{l[0], dirty(4, 0), l[1], l[2]}},
		{l, dirty(8, 9), []api.Buf{l[0], l[1], dirty(8, 9), l[2]}},
		{l, clean(31, 9), []api.Buf{l[0], l[1], l[2], clean(31, 9)}},
		{l, dirty(3, 9), []api.Buf{dirty(3, 9), l[1], l[2]}},
		{l, api.Buf{At: 5, Data: "b", Used: 8}, []api.Buf{l[0], {At: 5, Data: "b", Used: 8}, l[2]}},
		{l, api.Buf{At: 9}, []api.Buf{l[0], l[1], {At: 9}}},
	} {
		// As long as there is room nobody goes, also of those that are held.
		for _, held := range []func(int) bool{nobody, everybody} {
			if got, err := cache.Put(c.l, c.b, held); err != nil || !slices.Equal(got, c.want) {
				t.Errorf("Put(%s, %v) = %s, %v, want %s", told(c.l), c.b, told(got), err, told(c.want))
			}
		}
	}
	if got, err := cache.Put(full(dirty)[1:], dirty(2, 10), everybody); err != nil || !slices.Equal(got, full(dirty)) {
		t.Errorf("Put of the last one for which there is room: %s, %v", told(got), err)
	}
}

func TestG2PutInsteadNeedsNoRoom(t *testing.T) {
	for _, of := range []func(at, used int) api.Buf{clean, dirty} {
		for i := range api.Cached {
			b := api.Buf{At: 2 + 2*i, Data: "new", Used: 99}
			if got, err := cache.Put(full(of), b, everybody); err != nil || !slices.Equal(got, with(full(of), b)) {
				t.Errorf("Put(%s, %v) = %s, %v", told(full(of)), b, told(got), err)
			}
		}
	}
}

func TestG2OneGoes(t *testing.T) {
	l := full(clean)
	latest := api.Cached - 1
	for _, c := range []struct {
		what string
		l    []api.Buf
		held func(int) bool
		goes int
	}{
		{"the least Used", l, nobody, 0},
		{"the least Used, wherever it stands", with(l, clean(10, 1)), nobody, 4},
		{"the last one", with(l, clean(2+2*latest, -1)), nobody, latest},
		{"not one that is Dirty", with(l, dirty(2, 1)), nobody, 1},
		{"not one that is held", l, holding(2, 4), 2},
		{"neither", with(l, dirty(6, 1)), holding(2, 4), 3},
		{"the first one of several", with(with(l, clean(8, 5)), clean(12, 5)), nobody, 3},
		{"the first one of several that may go", with(with(l, clean(8, 5)), clean(12, 5)), holding(8), 5},
		{"the only one", with(full(dirty), clean(12, 99)), nobody, 5},
		{"the only one that nobody holds", l, holding(2, 4, 6, 8, 10, 12, 14), latest},
	} {
		for _, b := range []api.Buf{dirty(0, 50), clean(9, 0), clean(31, 50)} {
			want := without(c.l, c.goes, b)
			if got, err := cache.Put(c.l, b, c.held); err != nil || !slices.Equal(got, want) {
				t.Errorf("%s: Put(%s, %v) = %s, %v, want %s", c.what, told(c.l), b, told(got), err, told(want))
			}
		}
	}
}

func TestG2NoneMayGo(t *testing.T) {
	for _, c := range []struct {
		l    []api.Buf
		held func(int) bool
	}{
		{full(dirty), nobody},
		{full(clean), everybody},
		{with(full(dirty), clean(8, 1)), holding(8)},
	} {
		if got, err := cache.Put(c.l, clean(9, 50), c.held); err != api.ErrFull || len(got) != 0 {
			t.Errorf("Put(%s) = %s, %v, want that there is no room", told(c.l), told(got), err)
		}
	}
}

func TestG3Clean(t *testing.T) {
	l := []api.Buf{clean(0, 5), dirty(3, 7), {At: 4, Dirty: true}, dirty(31, 1)}
	for _, c := range []struct {
		at   int
		data string
		want []api.Buf
	}{
		{3, "a", with(l, clean(3, 7))},
		{31, "a", with(l, clean(31, 1))},
		{4, "", with(l, api.Buf{At: 4})},
		{3, "b", l}, {3, "", l}, {3, "aa", l}, {4, "a", l},
		{0, "a", l}, {0, "b", l},
		{5, "a", l}, {-1, "a", l}, {32, "a", l},
	} {
		if got := cache.Clean(l, c.at, c.data); !slices.Equal(got, c.want) {
			t.Errorf("Clean(%d, %q) = %s, want %s", c.at, c.data, told(got), told(c.want))
		}
	}
	if got := cache.Clean(nil, 3, "a"); len(got) != 0 {
		t.Errorf("Clean of none: %s", told(got))
	}
}

func TestG3Pick(t *testing.T) {
	l := []api.Buf{dirty(0, 5), clean(2, 1), dirty(3, 2), dirty(7, 2), clean(8, 0), dirty(31, 9)}
	for _, c := range []struct {
		l    []api.Buf
		held func(int) bool
		want int
	}{
		{l, nobody, 3}, {l, holding(3), 7}, {l, holding(3, 7), 0}, {l, holding(3, 7, 0), 31}, {l, holding(2, 8), 3},
		{l, holding(3, 7, 0, 31), -1}, {l, everybody, -1},
		{nil, nobody, -1}, {full(clean), nobody, -1}, {full(dirty), nobody, 2},
		{[]api.Buf{dirty(9, 2), dirty(10, 1), dirty(11, 1)}, nobody, 10},
	} {
		if got := cache.Pick(c.l, c.held); got != c.want {
			t.Errorf("Pick(%s) = %d, want %d", told(c.l), got, c.want)
		}
	}
}

func TestZ1NoCallPanics(t *testing.T) {
	odd := []int{math.MinInt, -1, 0, 1, 32, math.MaxInt}
	long := append(full(clean), clean(30, 1), clean(31, 0))
	for _, at := range odd {
		for _, l := range [][]api.Buf{nil, full(clean), full(dirty), long, {clean(at, at), clean(at, -at), dirty(-at, at)}} {
			for _, held := range []func(int) bool{nil, nobody, everybody} {
				cache.Put(l, api.Buf{At: at, Used: at}, held)
				cache.Pick(l, held)
			}
			cache.Get(l, at)
			cache.Use(l, at, at)
			cache.Clean(l, at, "a")
		}
	}
}

func TestZ2ListsThatAreHandedIn(t *testing.T) {
	calls := map[string]func(l []api.Buf) []api.Buf{
		"Use":         func(l []api.Buf) []api.Buf { return cache.Use(l, 4, 99) },
		"Use none":    func(l []api.Buf) []api.Buf { return cache.Use(l, 20, 99) },
		"Clean":       func(l []api.Buf) []api.Buf { return cache.Clean(l, 4, "a") },
		"Clean none":  func(l []api.Buf) []api.Buf { return cache.Clean(l, 4, "b") },
		"Put ahead":   func(l []api.Buf) []api.Buf { out, _ := cache.Put(l, dirty(0, 9), nobody); return out },
		"Put between": func(l []api.Buf) []api.Buf { out, _ := cache.Put(l, dirty(5, 9), nobody); return out },
		"Put behind":  func(l []api.Buf) []api.Buf { out, _ := cache.Put(l, dirty(29, 9), nobody); return out },
		"Put instead": func(l []api.Buf) []api.Buf { out, _ := cache.Put(l, dirty(4, 9), nobody); return out },
		"Put none":    func(l []api.Buf) []api.Buf { out, _ := cache.Put(l, dirty(29, 9), everybody); return out },
	}
	for name, call := range calls {
		for _, many := range []int{4, api.Cached} {
			given := with(full(clean), dirty(4, 1))[:many]
			l := append(slices.Clone(given), clean(30, -9), dirty(31, -9))[:many]
			before := told(l[:many+2])
			want := told(call(slices.Clip(slices.Clone(given))))
			got := call(l)
			if told(got) != want {
				t.Errorf("%s: %s, want %s", name, told(got), want)
			}
			for i := range got[:cap(got)] {
				got[:cap(got)][i] = dirty(31, 99)
			}
			if told(l[:many+2]) != before {
				t.Errorf("%s: what was handed in is written into, or comes out: %s", name, told(l[:many+2]))
			}
		}
	}
}

func TestZ2NothingBehindIsRead(t *testing.T) {
	l := []api.Buf{clean(3, 5), dirty(4, 1), clean(9, 0)}[:1]
	if _, ok := cache.Get(l, 4); ok || cache.Dirty(l) != 0 || cache.Pick(l, nobody) != -1 {
		t.Error("what stands behind the list is read")
	}
}
