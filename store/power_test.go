package store

import (
	"fmt"
	"math"
	"math/rand"
	"slices"
	"strings"
	"testing"

	"deedbox/api"
)

// P91: a Cut comes ahead of the byte that is one too many; what has just as many bytes is whole.
func TestCut(t *testing.T) {
	for n := range 7 {
		s := New()
		right(t, s.Put("ahead", "does not count"), s.Cut(n))
		wanted := error(nil)
		if n < 4 {
			wanted = api.ErrOff
		}
		want(t, fmt.Sprint("Put after Cut ", n), s.Put("a", "abcd"), wanted)
		if s.Power() != (n >= 4) {
			t.Errorf("Cut(%d): power is %v", n, s.Power())
		}
		has(t, s, "a="+"abcd"[:min(n, 4)], "ahead=does not count")
		s = New()
		right(t, s.Swap("", "old"), s.Cut(n))
		want(t, fmt.Sprint("Swap after Cut ", n), s.Swap("old", "abcd"), wanted)
		head := "abcd"
		if n < 4 {
			head = "old"
		}
		if s.Head() != head || s.Power() != (n >= 4) {
			t.Errorf("Cut(%d): head %q, power %v", n, s.Head(), s.Power())
		}
	}
}

// P91: a Cut that is used up does not stop what has no bytes.
func TestCutWithoutBytes(t *testing.T) {
	s := New()
	right(t, s.Cut(0), s.Put("a", ""), s.Swap("", ""), s.Put("b", ""), s.Drop("a"), s.Put("a", ""))
	next(t, s, 1, 1)
	if !s.Power() {
		t.Error("no power")
	}
	want(t, "Put", s.Put("c", "x"), api.ErrOff)
	has(t, s, "a=", "b=", "c=")
	if s.Power() || s.Born("c") != 1 {
		t.Error(s.Power(), s.Born("c"))
	}
}

// P91: Put and Swap count together; what is refused, and all else, counts for nothing.
func TestCutCounts(t *testing.T) {
	s := New()
	right(t, s.Put("a", "x"), s.Cut(6), s.Put("b", "12"), s.Swap("", "345"))
	want(t, "Put", s.Put("a", "123456789"), api.ErrExist)
	want(t, "Put", s.Put("A", "123456789"), api.ErrName)
	want(t, "Put", s.Put("c", filled(api.MaxText+1)), api.ErrBound)
	want(t, "Swap", s.Swap("", "123456789"), api.ErrStale)
	want(t, "Swap", s.Swap("345", filled(api.MaxText+1)), api.ErrBound)
	want(t, "Drop", s.Drop("q"), api.ErrNone)
	want(t, "Cut", s.Cut(-1), api.ErrBound)
	right(t, s.Drop("a"), s.Put("a", ""))
	next(t, s, 9, 9)
	if _, err := s.Get("b"); err != nil || len(s.Names()) != 2 || !s.Power() || s.Head() != "345" || !Same(s, s.Copy()) {
		t.Error(err)
	}
	right(t, s.Put("c", "6"))
	want(t, "Swap", s.Swap("345", "7"), api.ErrOff)
	has(t, s, "a=", "b=12", "c=6")
	if s.Head() != "345" || s.Power() {
		t.Error(s.Head())
	}
}

// P91: a later Cut stands in for one that waits; On takes it away, and one that came does not come again.
func TestCutAnew(t *testing.T) {
	s := New()
	right(t, s.Cut(1), s.Cut(3), s.Put("a", "123"), s.Cut(2), s.Put("b", "12"))
	right(t, s.Cut(100), s.Cut(0))
	want(t, "Put", s.Put("c", "1"), api.ErrOff)
	s.On()
	right(t, s.Put("d", filled(1000)), s.Cut(2), s.Put("e", "1"))
	s.On()
	right(t, s.Put("f", filled(1000)), s.Swap("", filled(1000)))
	right(t, s.Cut(math.MaxInt), s.Put("g", filled(api.MaxText)), s.Swap(filled(1000), ""))
	want(t, "Cut", s.Cut(math.MinInt), api.ErrBound)
	s.On()
	s.On()
	if !s.Power() {
		t.Error("no power")
	}
}

// P90, P92: a piece is an object as any other one: it is not written over, nor written to its end.
func TestPiece(t *testing.T) {
	s := New()
	right(t, s.Cut(2))
	want(t, "Put", s.Put("e", "abc"), api.ErrOff)
	s.On()
	want(t, "Put", s.Put("e", "abc"), api.ErrExist)
	want(t, "Put", s.Put("e", "c"), api.ErrExist)
	has(t, s, "e=ab")
	right(t, s.Drop("e"), s.Put("e", "abc"))
	has(t, s, "e=abc")
}

// changed: stores that are each in one thing another than the store of old.
func changed(t *testing.T) map[string]*Store {
	t.Helper()
	all := map[string]*Store{}
	for what, change := range map[string]func(*Store) error{
		"one more":       func(s *Store) error { return s.Put("c", "") },
		"one fewer":      func(s *Store) error { return s.Drop("b") },
		"another text":   func(s *Store) error { s.Drop("b"); return s.Put("b", "y") },
		"another name":   func(s *Store) error { s.Drop("b"); return s.Put("c", "x") },
		"another head":   func(s *Store) error { return s.Swap("h", "H") },
		"an empty head":  func(s *Store) error { return s.Swap("h", "") },
		"another day":    func(s *Store) error { _, err := s.Next(1); return err },
		"without power":  func(s *Store) error { s.Cut(0); s.Swap("h", "H"); return nil },
		"two other ones": func(s *Store) error { s.Drop("a"); s.Drop("b"); s.Put("a", "x"); return s.Put("b", "") },
	} {
		s := old(t)
		right(t, change(s))
		all[what] = s
	}
	// All is the same at the end, but the day on which one was put.
	s := New()
	right(t, s.Put("a", ""), s.Swap("", "h"))
	next(t, s, 2, 2)
	right(t, s.Put("b", "x"))
	all["another day of one"] = s
	return all
}

func old(t *testing.T) *Store {
	t.Helper()
	s := New()
	right(t, s.Put("a", ""), s.Put("b", "x"), s.Swap("", "h"))
	next(t, s, 2, 2)
	return s
}

// P91: two stores are the same by what they have, and by nothing else.
func TestSame(t *testing.T) {
	a, b := old(t), old(t)
	if !Same(a, b) || !Same(a, a) || !Same(nil, nil) || Same(a, nil) || Same(nil, a) || Same(New(), nil) || Same(nil, New()) || !Same(New(), New()) {
		t.Error("same")
	}
	for what, s := range changed(t) {
		if Same(a, s) || Same(s, a) || !Same(s, s) {
			t.Errorf("%s is told to be the same", what)
		}
	}
	// What was there on the way is not told; nor is a Cut that waits.
	right(t, b.Put("q", "x"), b.Drop("q"), b.Swap("h", "q"), b.Swap("q", "h"), b.Cut(3))
	if !Same(a, b) || !Same(b, a) {
		t.Error("not the same")
	}
	want(t, "Swap", b.Swap("h", "long"), api.ErrOff)
	if Same(a, b) {
		t.Error("same without power")
	}
	b.On()
	if !Same(a, b) {
		t.Error("not the same with power again")
	}
}

// P4, P90: a copy has all, and shares nothing.
func TestCopy(t *testing.T) {
	for what, s := range changed(t) {
		c := s.Copy()
		if !Same(s, c) || s == c {
			t.Errorf("%s: the copy is another one", what)
		}
		before := s.Copy()
		s.On()
		right(t, s.Put("new", "x"), s.Drop("a"), s.Swap(s.Head(), "new"))
		next(t, s, 5, c.Day()+5)
		if !Same(c, before) {
			t.Errorf("%s: the copy went with it", what)
		}
		c.On()
		after := s.Copy()
		right(t, c.Drop("a"), c.Put("a", "other"), c.Swap(c.Head(), "other"), c.Cut(0))
		want(t, "Put", c.Put("z", "x"), api.ErrOff)
		if !Same(s, after) {
			t.Errorf("%s: it went with the copy", what)
		}
	}
}

// P90, P91: a Cut that waits waits in a copy too, for bytes of the copy.
func TestCopyOfCut(t *testing.T) {
	s := New()
	right(t, s.Cut(3), s.Put("a", "1"))
	c := s.Copy()
	right(t, s.Put("b", "23"))
	want(t, "Put", c.Put("b", "234"), api.ErrOff)
	has(t, c, "a=1", "b=23")
	want(t, "Put", s.Put("c", "4"), api.ErrOff)
	c.On()
	if s.Power() || !c.Power() {
		t.Error(s.Power(), c.Power())
	}
}

// P4: a list of names is nobody else's.
func TestNamesAreNew(t *testing.T) {
	s := New()
	right(t, s.Put("b", ""), s.Put("a", ""))
	l := s.Names()
	l[0], l[1] = "x", "y"
	_ = append(l[:1], "z")
	if l := s.Names(); !slices.Equal(l, []string{"a", "b"}) {
		t.Error(l)
	}
	has(t, s, "a=", "b=")
}

// step: a call that writes.
type step struct {
	name, text string // without a name: the head
}

var steps = []step{{"data/1", "rows of one"}, {"gone/2", ""}, {"data/3", "x"}, {"snap/4", "a snap\n"}, {"meta/5", "meta 4\n"}, {"", "meta/5"}, {"snap/6", "another\n"}, {"meta/7", "meta 4 6\n"}, {"", "meta/7"}, {"data/8", "not needed"}}

// P91, P92: wherever power is cut, all ahead of it is whole, one object may be a piece, the head is the last one that was swapped whole.
func TestCutAnywhere(t *testing.T) {
	all := 0
	for _, st := range steps {
		all += len(st.text)
	}
	for n := range all + 2 {
		s := New()
		right(t, s.Cut(n))
		left, head := n, ""
		var objects []string
		for _, st := range steps {
			var err, wanted error
			whole := len(st.text) <= left && s.Power()
			if !whole {
				wanted = api.ErrOff
			}
			if st.name == "" {
				err = s.Swap(s.Head(), st.text)
			} else {
				if s.Power() {
					objects = append(objects, st.name+"="+st.text[:min(left, len(st.text))])
				}
				err = s.Put(st.name, st.text)
			}
			want(t, fmt.Sprintf("Cut(%d), %q", n, st), err, wanted)
			if st.name == "" && whole {
				head = st.text
			}
			left = max(0, left-len(st.text))
		}
		slices.Sort(objects)
		has(t, s, objects...)
		if s.Head() != head || s.Power() != (n >= all) {
			t.Errorf("Cut(%d): head %q, not %q; power %v", n, s.Head(), head, s.Power())
		}
	}
}

// model: a store in lists, which writes byte by byte.
type model struct {
	names, texts []string
	days         []int
	head         string
	day, left    int
	off          bool
}

// spell writes bytes until power fails; left below 0: no Cut waits.
func (m *model) spell(text string) string {
	done := ""
	for i := range len(text) {
		if m.left == 0 {
			m.off, m.left = true, -1
			break
		}
		if m.left > 0 {
			m.left--
		}
		done += text[i : i+1]
	}
	return done
}

func (m *model) put(name, text string) error {
	at := slices.Index(m.names, name)
	switch {
	case m.off:
		return api.ErrOff
	case at >= 0:
		return api.ErrExist
	}
	m.names, m.days = append(m.names, name), append(m.days, m.day)
	m.texts = append(m.texts, m.spell(text))
	if m.off {
		return api.ErrOff
	}
	return nil
}

func (m *model) drop(name string) error {
	at := slices.Index(m.names, name)
	switch {
	case m.off:
		return api.ErrOff
	case at < 0:
		return api.ErrNone
	}
	m.names, m.texts, m.days = slices.Delete(m.names, at, at+1), slices.Delete(m.texts, at, at+1), slices.Delete(m.days, at, at+1)
	return nil
}

func (m *model) swap(old, text string) error {
	switch {
	case m.off:
		return api.ErrOff
	case m.head != old:
		return api.ErrStale
	}
	m.spell(text)
	if m.off {
		return api.ErrOff
	}
	m.head = text
	return nil
}

func (m *model) cut(n int) error {
	switch {
	case n < 0:
		return api.ErrBound
	case m.off:
		return api.ErrOff
	}
	m.left = n
	return nil
}

// check: the store has what the model has.
func (m *model) check(t *testing.T, s *Store) {
	t.Helper()
	sorted := slices.Sorted(slices.Values(m.names))
	if names := s.Names(); !slices.Equal(names, sorted) {
		t.Fatal(names, sorted)
	}
	for i, name := range m.names {
		if text, err := s.Get(name); text != m.texts[i] || err != nil || s.Born(name) != m.days[i] {
			t.Fatal(name, text, err, s.Born(name))
		}
	}
	if s.Head() != m.head || s.Day() != m.day || s.Power() == m.off {
		t.Fatal(s.Head(), s.Day(), s.Power())
	}
}

// P90 to P92: calls in any order do what they do byte by byte; the same calls make the same store.
func TestAnyCalls(t *testing.T) {
	for seed := range 200 {
		r := rand.New(rand.NewSource(int64(seed)))
		s, twin, m := New(), New(), &model{left: -1}
		for range 150 {
			name, text, n := fmt.Sprint("n/", r.Intn(6)), strings.Repeat("ab", r.Intn(4)), r.Intn(9)-1
			both := func(wanted error, call func(*Store) error) {
				t.Helper()
				want(t, "s", call(s), wanted)
				want(t, "twin", call(twin), wanted)
			}
			switch r.Intn(8) {
			case 0, 1:
				both(m.put(name, text), func(s *Store) error { return s.Put(name, text) })
			case 2:
				both(m.drop(name), func(s *Store) error { return s.Drop(name) })
			case 3, 4:
				old := []string{m.head, text}[r.Intn(2)]
				both(m.swap(old, text), func(s *Store) error { return s.Swap(old, text) })
			case 5:
				both(m.cut(n), func(s *Store) error { return s.Cut(n) })
			case 6:
				m.off, m.left = false, -1
				s.On()
				twin.On()
			case 7:
				twin = twin.Copy()
				m.day += max(n, 0)
				next(t, s, max(n, 0), m.day)
				next(t, twin, max(n, 0), m.day)
			}
			m.check(t, s)
			if !Same(s, twin) {
				t.Fatal("the same calls, and not the same")
			}
		}
	}
}
