package store

import (
	"errors"
	"fmt"
	"math"
	"slices"
	"strings"
	"testing"

	"deedbox/api"
)

func filled(n int) string { return strings.Repeat("x", n) }

// want: each call's error is bare, and the one that is told.
func want(t *testing.T, what string, got, wanted error) {
	t.Helper()
	if got != wanted {
		t.Errorf("%s: %v, not %v", what, got, wanted)
	}
}

// right: a call that must not fail.
func right(t *testing.T, errs ...error) {
	t.Helper()
	if err := errors.Join(errs...); err != nil {
		t.Fatal(err)
	}
}

// has: the store has just these objects, `name=text` each, by their names.
func has(t *testing.T, s *Store, objects ...string) {
	t.Helper()
	got := []string{}
	for _, name := range s.Names() {
		text, err := s.Get(name)
		if err != nil {
			t.Errorf("Get(%q): %v", name, err)
		}
		got = append(got, name+"="+text)
	}
	if !slices.Equal(got, objects) {
		t.Errorf("%.200q, not %.200q", got, objects)
	}
}

// P90, P91: a new store is empty, on day 0, with power and without a Cut that waits; so is one that is zero.
func TestNew(t *testing.T) {
	for _, s := range []*Store{New(), {}, New().Copy(), (&Store{}).Copy()} {
		has(t, s)
		if len(s.Names()) != 0 || s.Head() != "" || s.Day() != 0 || !s.Power() || s.Born("a") != -1 || !Same(s, New()) {
			t.Errorf("%+v", s)
		}
		text, err := s.Get("a")
		if text != "" {
			t.Error(text)
		}
		want(t, "Get", err, api.ErrNone)
		want(t, "Drop", s.Drop("a"), api.ErrNone)
		right(t, s.Put("a", filled(api.MaxText)), s.Swap("", filled(api.MaxText)), s.Put("b", ""))
		has(t, s, "a="+filled(api.MaxText), "b=")
	}
	if New() == New() {
		t.Error("one store twice")
	}
}

// P90: objects are put, got, dropped, and put anew.
func TestObjects(t *testing.T) {
	s := New()
	right(t, s.Put("data/2", "two\nlines\n"), s.Put("data/10", ""), s.Put("a", "\x00\xff"), s.Put("data", "d"), s.Put("0", "n"), s.Put("/", "s"))
	has(t, s, "/=s", "0=n", "a=\x00\xff", "data=d", "data/10=", "data/2=two\nlines\n")
	right(t, s.Drop("data"), s.Drop("data/10"))
	has(t, s, "/=s", "0=n", "a=\x00\xff", "data/2=two\nlines\n")
	for _, name := range []string{"data", "data/10", "", "data/", "DATA/2", "ata/2", "é", filled(17), filled(1000)} {
		text, err := s.Get(name)
		if text != "" || s.Born(name) != -1 {
			t.Errorf("%q: %q, %d", name, text, s.Born(name))
		}
		want(t, "Get "+name, err, api.ErrNone)
		want(t, "Drop "+name, s.Drop(name), api.ErrNone)
	}
	right(t, s.Put("data", "again"))
	has(t, s, "/=s", "0=n", "a=\x00\xff", "data=again", "data/2=two\nlines\n")
}

// P90: a name is 1 to 16 small letters, digits, and slashes.
func TestNames(t *testing.T) {
	s := New()
	for b := range 256 {
		sign := string([]byte{byte(b)})
		wanted := api.ErrName
		if strings.Contains("abcdefghijklmnopqrstuvwxyz0123456789/", sign) {
			wanted = nil
		}
		want(t, fmt.Sprintf("Put %q", sign), s.Put(sign, ""), wanted)
		want(t, fmt.Sprintf("Put data/1%q", sign), s.Put("data/1"+sign, ""), wanted)
	}
	s = New()
	for _, name := range []string{"a", "0", "/", "//", "a/", "/a", "a//b", "data/1073741824", "abcdefghijklmnop", filled(16), strings.Repeat("/", 16), "z9/z9/z9/z9/z9/z"} {
		want(t, "Put "+name, s.Put(name, "x"), nil)
	}
	before := s.Copy()
	for _, name := range []string{"", filled(17), "data/10737418240x", strings.Repeat("/", 17), strings.Repeat("/", 100000), "A", "a b", " a", "a ", "a\n", "a-1", "a.b", "é", "a/é", "１", "data/-1", "data\\1", "Data/1"} {
		want(t, "Put "+name, s.Put(name, "x"), api.ErrName)
	}
	if !Same(s, before) {
		t.Error("a name that is none changed something")
	}
}

// P90: of several errors of Put, the first, in the order in which they are named.
func TestPutErrors(t *testing.T) {
	long := filled(api.MaxText + 1)
	full := fullOfObjects(t)
	off := full.Copy()
	right(t, off.Cut(0))
	want(t, "Swap", off.Swap("", "x"), api.ErrOff)
	for _, c := range []struct {
		s          *Store
		name, text string
		want       error
	}{
		{off, "A", long, api.ErrName},
		{off, "", "x", api.ErrName},
		{full, "A", long, api.ErrName},
		{off, "n0", long, api.ErrBound},
		{off, "new", long, api.ErrBound},
		{full, "n0", long, api.ErrBound},
		{full, "new", long, api.ErrBound},
		{off, "n0", "x", api.ErrOff},
		{off, "new", "x", api.ErrOff},
		{off, "new", "", api.ErrOff},
		{full, "n0", "x", api.ErrExist},
		{full, "n0", "", api.ErrExist},
		{full, "new", "x", api.ErrFull},
		{full, "new", "", api.ErrFull},
	} {
		before := c.s.Copy()
		want(t, fmt.Sprintf("Put(%q, %.5q)", c.name, c.text), c.s.Put(c.name, c.text), c.want)
		if !Same(before, c.s) {
			t.Errorf("Put(%q, %.5q) changed something", c.name, c.text)
		}
	}
}

// fullOfObjects: a store with as many as there may be, n0, n1 .., all empty.
func fullOfObjects(t *testing.T) *Store {
	t.Helper()
	s := New()
	for i := range api.MaxObjects {
		right(t, s.Put(fmt.Sprint("n", i), ""))
	}
	return s
}

// P90: a text has at most MaxText bytes, not signs.
func TestLongTexts(t *testing.T) {
	s := New()
	want(t, "Put", s.Put("a", filled(api.MaxText)), nil)
	want(t, "Put", s.Put("b", filled(api.MaxText+1)), api.ErrBound)
	want(t, "Put", s.Put("c", strings.Repeat("é", api.MaxText/2)), nil)
	want(t, "Put", s.Put("d", strings.Repeat("é", api.MaxText/2)+"x"), api.ErrBound)
	want(t, "Put", s.Put("e", filled(api.MaxBytes+1)), api.ErrBound)
	has(t, s, "a="+filled(api.MaxText), "c="+strings.Repeat("é", api.MaxText/2))
}

// P90: as many objects as there may be; one that is dropped leaves room.
func TestManyObjects(t *testing.T) {
	s := fullOfObjects(t)
	want(t, "Put", s.Put("new", ""), api.ErrFull)
	right(t, s.Drop("n7"))
	want(t, "Put", s.Put("new", ""), nil)
	want(t, "Put", s.Put("n7", ""), api.ErrFull)
	if len(s.Names()) != api.MaxObjects {
		t.Error(len(s.Names()))
	}
}

// P90: as many bytes as there may be, of objects alone: neither names nor the head count.
func TestManyBytes(t *testing.T) {
	s := New()
	for i := range 13 {
		right(t, s.Put(fmt.Sprint("long/name/", i), filled(api.MaxText)))
	}
	rest := api.MaxBytes - 13*api.MaxText
	right(t, s.Swap("", filled(api.MaxText)))
	want(t, "Put", s.Put("b", filled(rest+1)), api.ErrFull)
	want(t, "Put", s.Put("long/name/3", filled(rest+1)), api.ErrExist)
	want(t, "Put", s.Put("b", filled(rest)), nil)
	want(t, "Put", s.Put("c", "x"), api.ErrFull)
	want(t, "Put", s.Put("c", ""), nil)
	right(t, s.Swap(filled(api.MaxText), ""), s.Drop("b"))
	want(t, "Put", s.Put("d", filled(rest-1)), nil)
	want(t, "Put", s.Put("e", "xy"), api.ErrFull)
	want(t, "Put", s.Put("e", "x"), nil)
}

// P90, P91: that there is no room is told ahead of a power cut, of the whole text; nothing is written then.
func TestFullAheadOfCut(t *testing.T) {
	s := New()
	for i := range 13 {
		right(t, s.Put(fmt.Sprint("a", i), filled(api.MaxText)))
	}
	rest := api.MaxBytes - 13*api.MaxText
	right(t, s.Cut(5))
	want(t, "Put", s.Put("b", filled(rest+1)), api.ErrFull)
	if !s.Power() || s.Born("b") != -1 {
		t.Error("power was cut")
	}
	// A piece takes the room of what is written of it.
	want(t, "Put", s.Put("b", filled(rest)), api.ErrOff)
	s.On()
	want(t, "Put", s.Put("c", filled(rest-4)), api.ErrFull)
	want(t, "Put", s.Put("c", filled(rest-5)), nil)
}

// P90, P91: an object has the day on which it was put, also a piece, also one that is put anew.
func TestBorn(t *testing.T) {
	s := New()
	right(t, s.Put("a", "x"), s.Put("b", "x"))
	next(t, s, 3, 3)
	right(t, s.Put("c", "x"), s.Drop("b"), s.Cut(1))
	want(t, "Put", s.Put("d", "xy"), api.ErrOff)
	next(t, s, 4, 7)
	s.On()
	right(t, s.Put("b", "x"))
	want(t, "Put", s.Put("a", "x"), api.ErrExist)
	for name, day := range map[string]int{"a": 0, "b": 7, "c": 3, "d": 3, "e": -1, "": -1, "A": -1} {
		if got := s.Born(name); got != day {
			t.Errorf("Born(%q): %d, not %d", name, got, day)
		}
	}
}

func next(t *testing.T, s *Store, days, day int) {
	t.Helper()
	if got, err := s.Next(days); got != day || err != nil || s.Day() != day {
		t.Errorf("Next(%d): %d, %v; Day %d, not %d", days, got, err, s.Day(), day)
	}
}

// P91: days go on, up to the last one, with and without power.
func TestNext(t *testing.T) {
	s := New()
	wrong := func(days int) {
		t.Helper()
		day := s.Day()
		if got, err := s.Next(days); got != 0 || err != api.ErrBound || s.Day() != day {
			t.Errorf("Next(%d): %d, %v; Day %d", days, got, err, s.Day())
		}
	}
	next(t, s, 0, 0)
	for _, days := range []int{-1, math.MinInt, api.MaxDay + 1, math.MaxInt} {
		wrong(days)
	}
	next(t, s, 1, 1)
	wrong(api.MaxDay)
	wrong(-1)
	right(t, s.Cut(0))
	next(t, s, 2, 3)
	want(t, "Swap", s.Swap("", "x"), api.ErrOff)
	next(t, s, api.MaxDay-4, api.MaxDay-1)
	wrong(2)
	wrong(math.MaxInt)
	wrong(math.MaxInt - api.MaxDay + 2)
	next(t, s, 1, api.MaxDay)
	next(t, s, 0, api.MaxDay)
	wrong(1)
	if s.Power() {
		t.Error("days bring no power")
	}
	s = New()
	next(t, s, api.MaxDay, api.MaxDay)
}

// P91: the head is swapped by who knows it.
func TestSwap(t *testing.T) {
	s := New()
	for _, c := range []struct {
		old, text string
		want      error
		head      string
	}{
		{"x", "one", api.ErrStale, ""},
		{"", "one", nil, "one"},
		{"", "two", api.ErrStale, "one"},
		{"on", "two", api.ErrStale, "one"},
		{"one ", "two", api.ErrStale, "one"},
		{"One", "two", api.ErrStale, "one"},
		{"one", "one", nil, "one"},
		{"one", "", nil, ""},
		{"one", "two", api.ErrStale, ""},
		{"", "", nil, ""},
		{"", filled(api.MaxText + 1), api.ErrBound, ""},
		{"x", filled(api.MaxText + 1), api.ErrBound, ""},
		{"", "A b\n\xff", nil, "A b\n\xff"},
		{"A b\n\xff", filled(api.MaxText), nil, filled(api.MaxText)},
		{filled(api.MaxText + 1), "x", api.ErrStale, filled(api.MaxText)},
		{filled(api.MaxText), "x", nil, "x"},
	} {
		want(t, fmt.Sprintf("Swap(%.9q, %.9q)", c.old, c.text), s.Swap(c.old, c.text), c.want)
		if s.Head() != c.head {
			t.Errorf("Swap(%.9q, %.9q): the head is %.9q", c.old, c.text, s.Head())
		}
	}
	has(t, s)
}

// P90, P91: without power nothing is changed, and all is told; what is wrong by itself is told ahead of that.
func TestOff(t *testing.T) {
	s := New()
	right(t, s.Put("a", "x"), s.Swap("", "h"), s.Cut(0))
	want(t, "Swap", s.Swap("h", "new"), api.ErrOff)
	before := s.Copy()
	long := filled(api.MaxText + 1)
	for i, c := range []struct{ err, want error }{
		{s.Put("b", "x"), api.ErrOff},
		{s.Put("b", ""), api.ErrOff},
		{s.Put("a", "x"), api.ErrOff},
		{s.Put("B", "x"), api.ErrName},
		{s.Put("b", long), api.ErrBound},
		{s.Drop("a"), api.ErrOff},
		{s.Drop("q"), api.ErrOff},
		{s.Drop(""), api.ErrOff},
		{s.Swap("h", "x"), api.ErrOff},
		{s.Swap("h", ""), api.ErrOff},
		{s.Swap("q", "x"), api.ErrOff},
		{s.Swap("q", long), api.ErrBound},
		{s.Cut(0), api.ErrOff},
		{s.Cut(7), api.ErrOff},
		{s.Cut(-1), api.ErrBound},
	} {
		want(t, fmt.Sprint("call ", i), c.err, c.want)
	}
	if s.Power() || !Same(s, before) {
		t.Error("something was changed")
	}
	has(t, s, "a=x")
	if s.Head() != "h" || s.Born("a") != 0 || s.Born("b") != -1 {
		t.Error(s.Head(), s.Born("a"), s.Born("b"))
	}
	_, err := s.Get("b")
	want(t, "Get", err, api.ErrNone)
	s.On()
	if !s.Power() {
		t.Error("no power")
	}
	right(t, s.Put("b", long[1:]), s.Swap("h", long[1:]), s.Drop("a"))
}
